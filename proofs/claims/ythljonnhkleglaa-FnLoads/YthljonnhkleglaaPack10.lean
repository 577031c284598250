import Derived.Test.YthljonnhkleglaaPack0
import Derived.Test.YthljonnhkleglaaPack1
namespace Go.Proofs.Ythljonnhkleglaa
open Go.RowKit

set_option maxHeartbeats 1000000 in
theorem specCase_no (n fine : Int) (a ao av : Option Addr) (cap ko co kv cv : Nat) (zs os vs : List Int) (w : World) (hA : IntsAt w a zs) (hko : ko ≤ 9223372036854775807) (hkv : kv ≤ 9223372036854775807) (h : ¬ (matB n zs = true ∧ ko ≤ 12 ∧ kv ≤ 5 ∧ inB fine 0 1000000 = true)) :
    Calls Try.prog 11 #[.agg #[.int .i64 n, .slice a zs.length cap, .slice ao ko co, .slice av kv cv, .int .i64 fine]] w fun e w' => e = .returned (.bool (caseB n zs os vs ko kv fine)) ∧ Below w.heap.size w w' := by
  have HB0 : Hid (Below w.heap.size w (w.alloc (Obj.cells #[Value.int IntKind.i64 n, Value.slice a zs.length cap, Value.slice ao ko co, Value.slice av kv cv, Value.int IntKind.i64 fine] 30))) := (Below.refl _ _).alloc (Nat.le_refl _) _
  have HA : Hid (IntsAt w a zs) := hA
  clear hA
  have HC : Hid (caseB n zs os vs ko kv fine = false) := by
    show _ = _
    unfold caseB
    cases h1 : matB n zs
    · rfl
    · cases h2 : ordsB n os ko
      · rfl
      · cases h3 : vehsB n vs kv
        · rfl
        · cases h4 : inB fine 0 1000000
          · rfl
          · exact absurd ⟨h1, (ordsB_true h2).1, (vehsB_true h3).1, h4⟩ h
  cases h1 : matB n zs
  · have HM : Hid _ := h1
    clear h1 h
    go_enter Try.func11, Try.ntmps11
    go_wp2_with fail
    refine (specMat_any n a cap zs _ (HA.out.below HB0.out)).mono ?_
    rintro e w1 ⟨rfl, hb⟩
    rw [HM.out]
    obtain ⟨b1, r1⟩ := box5 hb
    obtain ⟨c0, c1, c2, c3, c4⟩ := cells5 r1
    have B1 : Hid _ := b1
    have R1 : Hid _ := r1
    clear hb b1 r1
    go_wp2_with (first | (go_at_call 39; refine (l1In_any _ _ _ _).mono ?_; rintro e w' ⟨rfl, rfl⟩))
    go_ret
    exact ⟨ret_bool HC.out.symm, B1.out⟩
  · have HM : Hid _ := h1
    by_cases h2 : ko ≤ 12
    · by_cases h3 : kv ≤ 5
      · have h4 : inB fine 0 1000000 = false := by
          cases h4 : inB fine 0 1000000
          · rfl
          · exact absurd ⟨h1, h2, h3, h4⟩ h
        clear h1 h
        go_enter Try.func11, Try.ntmps11
        go_wp2_with fail
        refine (specMat_any n a cap zs _ (HA.out.below HB0.out)).mono ?_
        rintro e w1 ⟨rfl, hb⟩
        rw [HM.out]
        obtain ⟨b1, r1⟩ := box5 hb
        obtain ⟨c0, c1, c2, c3, c4⟩ := cells5 r1
        have B1 : Hid _ := b1
        have R1 : Hid _ := r1
        clear hb b1 r1
        go_wp2_with (first | (go_at_call 39; refine (l1In_any _ _ _ _).mono ?_; rintro e w' ⟨rfl, rfl⟩))
        go_ret
        exact ⟨ret_bool HC.out.symm, B1.out⟩
      · clear h1 h
        go_enter Try.func11, Try.ntmps11
        go_wp2_with fail
        refine (specMat_any n a cap zs _ (HA.out.below HB0.out)).mono ?_
        rintro e w1 ⟨rfl, hb⟩
        rw [HM.out]
        obtain ⟨b1, r1⟩ := box5 hb
        obtain ⟨c0, c1, c2, c3, c4⟩ := cells5 r1
        have B1 : Hid _ := b1
        have R1 : Hid _ := r1
        clear hb b1 r1
        go_wp2_with (first | (go_at_call 39; refine (l1In_any _ _ _ _).mono ?_; rintro e w' ⟨rfl, rfl⟩))
        go_ret
        exact ⟨ret_bool HC.out.symm, B1.out⟩
    · clear h1 h
      go_enter Try.func11, Try.ntmps11
      go_wp2_with fail
      refine (specMat_any n a cap zs _ (HA.out.below HB0.out)).mono ?_
      rintro e w1 ⟨rfl, hb⟩
      rw [HM.out]
      obtain ⟨b1, r1⟩ := box5 hb
      obtain ⟨c0, c1, c2, c3, c4⟩ := cells5 r1
      have B1 : Hid _ := b1
      have R1 : Hid _ := r1
      clear hb b1 r1
      go_wp2_with (first | (go_at_call 39; refine (l1In_any _ _ _ _).mono ?_; rintro e w' ⟨rfl, rfl⟩))
      go_ret
      exact ⟨ret_bool HC.out.symm, B1.out⟩

theorem caseB_def (n : Int) (zs os vs : List Int) (ko kv : Nat) (fine : Int) : caseB n zs os vs ko kv fine = (matB n zs && ordsB n os ko && vehsB n vs kv && inB fine 0 1000000) := rfl

set_option maxHeartbeats 2000000 in
theorem specCase_loop (n fine : Int) (a ao av : Option Addr) (cap ko co kv cv : Nat) (zs os vs : List Int) (w : World) (hA : IntsAt w a zs) (hO : IntsAt w ao os) (hV : IntsAt w av vs) (hlo : os.length = ko * 6) (hlv : vs.length = kv * 5) (hm : matB n zs = true) (hko : ko ≤ 12) (hkv : kv ≤ 5) (hf : inB fine 0 1000000 = true) :
    Calls Try.prog 11 #[.agg #[.int .i64 n, .slice a zs.length cap, .slice ao ko co, .slice av kv cv, .int .i64 fine]] w fun e w' => e = .returned (.bool (caseB n zs os vs ko kv fine)) ∧ Below w.heap.size w w' := by
  have HB0 : Hid (Below w.heap.size w (w.alloc (Obj.cells #[Value.int IntKind.i64 n, Value.slice a zs.length cap, Value.slice ao ko co, Value.slice av kv cv, Value.int IntKind.i64 fine] 30))) := (Below.refl _ _).alloc (Nat.le_refl _) _
  have HA : Hid (IntsAt w a zs) := hA
  have HX6 : Hid (IntsAt w ao os) := hO
  have HX5 : Hid (IntsAt w av vs) := hV
  have HLX6 : Hid (os.length = ko * 6) := hlo
  have HLX5 : Hid (vs.length = kv * 5) := hlv
  have HM : Hid _ := hm
  obtain ⟨hn1, hn2, _, _⟩ := matB_true hm
  have hdk : decide ((12 : Int) < (ko : Int)) = false := by simp; omega
  have hdv : decide ((5 : Int) < (kv : Int)) = false := by simp; omega
  clear hA hO hV hlo hlv hm
  go_enter Try.func11, Try.ntmps11
  go_wp2_with fail
  refine (specMat_any n a cap zs _ (HA.out.below HB0.out)).mono ?_
  rintro e w1 ⟨rfl, hb⟩
  rw [HM.out]
  obtain ⟨b1, r1⟩ := box5 hb
  obtain ⟨c0, c1, c2, c3, c4⟩ := cells5 r1
  have B1 : Hid _ := b1
  have R1 : Hid _ := r1
  clear hb b1 r1
  go_wp2_with (first | (go_at_call 39; refine (l1In_any _ _ _ _).mono ?_; rintro e w' ⟨rfl, rfl⟩))
  clear c0 c1 c2 c3 c4
  go_loopw [3] (fun t wr => ∃ k : Nat, k ≤ ko ∧ t = .int .i64 k ∧ ordsTo n os k ∧ Below w.heap.size w wr ∧ wr.heap[w.heap.size]? = some (.cells #[Value.int IntKind.i64 n, Value.slice a zs.length cap, Value.slice ao ko co, Value.slice av kv cv, Value.int IntKind.i64 fine] 30 (0, 0))) (fun t _ => ko - (intOf t).toNat)
  case atStart => exact ⟨0, Nat.zero_le _, rfl, ordsTo_zero _ _, B1.out, R1.out⟩
  case round =>
    clear B1 R1
    obtain ⟨k, hk, rfl, ht, hb, g3⟩ := hrel
    have HT : Hid _ := ht
    have G3 : Hid _ := g3
    have HB : Hid _ := hb
    obtain ⟨c0, c1, c2, c3, c4⟩ := cells5 g3
    clear ht
    by_cases hlt : k < ko
    · obtain ⟨b, off, rfl, hcs⟩ := IntsAt.some (IntsAt.below HX6.out hb) (j := k * 6) (by rw [HLX6.out]; omega)
      obtain ⟨r0, r1, r2, r3, r4, r5⟩ := row6_at hcs HLX6.out k hlt
      have HCS : Hid _ := hcs
      clear hcs g3 hb
      obtain ⟨o0, H0⟩ : ∃ t, Hid (og6 os k 0 = t) := ⟨_, rfl⟩
      obtain ⟨o1, H1⟩ : ∃ t, Hid (og6 os k 1 = t) := ⟨_, rfl⟩
      obtain ⟨o2, H2⟩ : ∃ t, Hid (og6 os k 2 = t) := ⟨_, rfl⟩
      obtain ⟨o3, H3⟩ : ∃ t, Hid (og6 os k 3 = t) := ⟨_, rfl⟩
      obtain ⟨o4, H4⟩ : ∃ t, Hid (og6 os k 4 = t) := ⟨_, rfl⟩
      obtain ⟨o5, H5⟩ : ∃ t, Hid (og6 os k 5 = t) := ⟨_, rfl⟩
      rw [H0.out] at r0
      rw [H1.out] at r1
      rw [H2.out] at r2
      rw [H3.out] at r3
      rw [H4.out] at r4
      rw [H5.out] at r5
      have s0 := fun s : Kin wr => s.cell c0
      have s1 := fun s : Kin wr => s.cell c2
      have t0 := fun s : Kin wr => s.cell r0
      have t1 := fun s : Kin wr => s.cell r1
      have t2 := fun s : Kin wr => s.cell r2
      have t3 := fun s : Kin wr => s.cell r3
      have t4 := fun s : Kin wr => s.cell r4
      have t5 := fun s : Kin wr => s.cell r5
      cases h1 : ordB n o0 o1 o2 o3 o4 o5
      · have HN : Hid (ordsB n os ko = false) := ordsB_bad hlt (by rw [H0.out, H1.out, H2.out, H3.out, H4.out, H5.out, h1]; simp)
        go_wp2_with fail
        have hkin := Kin.there wr
        refine wp_region_kin (by kernel_rfl) (by kernel_rfl) ?_
        repeat (go_big_quiet_step ((go_at_call 40; exact Kin.call (l2Order_any n _ _ _ _ _ _ _ hn1 hn2))))
        refine wpQuiet_nil ?_
        rintro _ ⟨s, rfl⟩
        have HS2 := HB.out.trans (s.below.mono HB.out.size)
        have R2 := below_row s.below (row_lt G3.out) G3.out
        generalize s.w = w2 at *
        go_wp2
        go_ret
        exact ⟨ret_bool (by simp [caseB_def, HN.out]), HS2⟩
      · by_cases hk0 : k = 0
        · have HS : Hid (ordsTo n os (k + 1)) := ordsTo_step HT.out (by rw [H0.out, H1.out, H2.out, H3.out, H4.out, H5.out]; exact h1) (fun h => by omega)
          have hkz : (decide (0 < k)) = false := by simp; omega
          have hk1 : k ≤ 0 := by omega
          clear hk0
          go_wp2_with fail
          have hkin := Kin.there wr
          refine wp_region_kin (by kernel_rfl) (by kernel_rfl) ?_
          repeat (go_big_quiet_step ((go_at_call 40; exact Kin.call (l2Order_any n _ _ _ _ _ _ _ hn1 hn2))))
          refine wpQuiet_nil ?_
          rintro _ ⟨s, rfl⟩
          have HS2 := HB.out.trans (s.below.mono HB.out.size)
          have R2 := below_row s.below (row_lt G3.out) G3.out
          generalize s.w = w2 at *
          go_wp2
          refine ⟨⟨k + 1, by omega, by go_num, HS.out, HS2, R2⟩, by simp [intOf]; omega⟩
        · have hk1 : 0 < k := by omega
          obtain ⟨rp, _⟩ := row6_at HCS.out HLX6.out (k - 1) (by omega)
          obtain ⟨p, HP⟩ : ∃ t, Hid (og6 os (k - 1) 0 = t) := ⟨_, rfl⟩
          rw [HP.out] at rp
          have tp := fun s : Kin wr => s.cell rp
          have hkm : k - 1 < ko := by omega
          have hw1 : IntKind.i64.wrap ((k : Int) - 1) = ((k - 1 : Nat) : Int) := by
            rw [IntKind.wrap_i64]; omega
          clear hk0
          by_cases hp : p < o0
          · have HS : Hid (ordsTo n os (k + 1)) := ordsTo_step HT.out (by rw [H0.out, H1.out, H2.out, H3.out, H4.out, H5.out]; exact h1) (fun _ => by rw [HP.out, H0.out]; exact hp)
            go_wp2_with fail
            have hkin := Kin.there wr
            refine wp_region_kin (by kernel_rfl) (by kernel_rfl) ?_
            repeat (go_big_quiet_step ((go_at_call 40; exact Kin.call (l2Order_any n _ _ _ _ _ _ _ hn1 hn2))))
            refine wpQuiet_nil ?_
            rintro _ ⟨s, rfl⟩
            have HS2 := HB.out.trans (s.below.mono HB.out.size)
            have R2 := below_row s.below (row_lt G3.out) G3.out
            generalize s.w = w2 at *
            go_wp2
            refine ⟨⟨k + 1, by omega, by go_num, HS.out, HS2, R2⟩, by simp [intOf]; omega⟩
          · have HN : Hid (ordsB n os ko = false) := ordsB_bad hlt (fun h => hp (by have := h.2 hk1; rw [HP.out, H0.out] at this; exact this))
            go_wp2_with fail
            have hkin := Kin.there wr
            refine wp_region_kin (by kernel_rfl) (by kernel_rfl) ?_
            repeat (go_big_quiet_step ((go_at_call 40; exact Kin.call (l2Order_any n _ _ _ _ _ _ _ hn1 hn2))))
            refine wpQuiet_nil ?_
            rintro _ ⟨s, rfl⟩
            have HS2 := HB.out.trans (s.below.mono HB.out.size)
            have R2 := below_row s.below (row_lt G3.out) G3.out
            generalize s.w = w2 at *
            go_wp2
            go_ret
            exact ⟨ret_bool (by simp [caseB_def, HN.out]), HS2⟩
    · have hkx : k = ko := by omega
      have HN : Hid (ordsB n os ko = true) := ordsB_yes (by omega) (hkx ▸ HT.out)
      clear hkx g3 hb
      go_wp2_with fail
      clear c0 c1 c2 c3 c4
      have HO2 : Hid (ordsB n os ko = true) := HN.out
      go_loopw [4] (fun t wr => ∃ k : Nat, k ≤ kv ∧ t = .int .i64 k ∧ vehsTo n vs k ∧ Below w.heap.size w wr ∧ wr.heap[w.heap.size]? = some (.cells #[Value.int IntKind.i64 n, Value.slice a zs.length cap, Value.slice ao ko co, Value.slice av kv cv, Value.int IntKind.i64 fine] 30 (0, 0))) (fun t _ => kv - (intOf t).toNat)
      case atStart => exact ⟨0, Nat.zero_le _, rfl, vehsTo_zero _ _, HB.out, G3.out⟩
      case round =>
        clear HT G3 HB HN
        obtain ⟨k, hk, rfl, ht, hb, g3⟩ := hrel
        have HT : Hid _ := ht
        have G3 : Hid _ := g3
        have HB : Hid _ := hb
        obtain ⟨c0, c1, c2, c3, c4⟩ := cells5 g3
        clear ht
        by_cases hlt : k < kv
        · obtain ⟨b, off, rfl, hcs⟩ := IntsAt.some (IntsAt.below HX5.out hb) (j := k * 5) (by rw [HLX5.out]; omega)
          obtain ⟨r0, r1, r2, r3, r4⟩ := row5_at hcs HLX5.out k hlt
          have HCS : Hid _ := hcs
          clear hcs g3 hb
          obtain ⟨o0, H0⟩ : ∃ t, Hid (og5 vs k 0 = t) := ⟨_, rfl⟩
          obtain ⟨o1, H1⟩ : ∃ t, Hid (og5 vs k 1 = t) := ⟨_, rfl⟩
          obtain ⟨o2, H2⟩ : ∃ t, Hid (og5 vs k 2 = t) := ⟨_, rfl⟩
          obtain ⟨o3, H3⟩ : ∃ t, Hid (og5 vs k 3 = t) := ⟨_, rfl⟩
          obtain ⟨o4, H4⟩ : ∃ t, Hid (og5 vs k 4 = t) := ⟨_, rfl⟩
          rw [H0.out] at r0
          rw [H1.out] at r1
          rw [H2.out] at r2
          rw [H3.out] at r3
          rw [H4.out] at r4
          have s0 := fun s : Kin wr => s.cell c0
          have s1 := fun s : Kin wr => s.cell c3
          have t0 := fun s : Kin wr => s.cell r0
          have t1 := fun s : Kin wr => s.cell r1
          have t2 := fun s : Kin wr => s.cell r2
          have t3 := fun s : Kin wr => s.cell r3
          have t4 := fun s : Kin wr => s.cell r4
          cases h1 : vehB n o0 o1 o2 o3 o4
          · have HN : Hid (vehsB n vs kv = false) := vehsB_bad hlt (by rw [H0.out, H1.out, H2.out, H3.out, H4.out, h1]; simp)
            go_wp2_with fail
            have hkin := Kin.there wr
            refine wp_region_kin (by kernel_rfl) (by kernel_rfl) ?_
            repeat (go_big_quiet_step ((go_at_call 41; exact Kin.call (l2Vehicle_any n _ _ _ _ _ _ hn1 hn2))))
            refine wpQuiet_nil ?_
            rintro _ ⟨s, rfl⟩
            have HS2 := HB.out.trans (s.below.mono HB.out.size)
            have R2 := below_row s.below (row_lt G3.out) G3.out
            generalize s.w = w2 at *
            go_wp2
            go_ret
            exact ⟨ret_bool (by simp [caseB_def, HN.out]), HS2⟩
          · by_cases hk0 : k = 0
            · have HS : Hid (vehsTo n vs (k + 1)) := vehsTo_step HT.out (by rw [H0.out, H1.out, H2.out, H3.out, H4.out]; exact h1) (fun h => by omega)
              have hkz : (decide (0 < k)) = false := by simp; omega
              have hk1 : k ≤ 0 := by omega
              clear hk0
              go_wp2_with fail
              have hkin := Kin.there wr
              refine wp_region_kin (by kernel_rfl) (by kernel_rfl) ?_
              repeat (go_big_quiet_step ((go_at_call 41; exact Kin.call (l2Vehicle_any n _ _ _ _ _ _ hn1 hn2))))
              refine wpQuiet_nil ?_
              rintro _ ⟨s, rfl⟩
              have HS2 := HB.out.trans (s.below.mono HB.out.size)
              have R2 := below_row s.below (row_lt G3.out) G3.out
              generalize s.w = w2 at *
              go_wp2
              refine ⟨⟨k + 1, by omega, by go_num, HS.out, HS2, R2⟩, by simp [intOf]; omega⟩
            · have hk1 : 0 < k := by omega
              obtain ⟨rp, _⟩ := row5_at HCS.out HLX5.out (k - 1) (by omega)
              obtain ⟨p, HP⟩ : ∃ t, Hid (og5 vs (k - 1) 0 = t) := ⟨_, rfl⟩
              rw [HP.out] at rp
              have tp := fun s : Kin wr => s.cell rp
              have hkm : k - 1 < kv := by omega
              have hw1 : IntKind.i64.wrap ((k : Int) - 1) = ((k - 1 : Nat) : Int) := by
                rw [IntKind.wrap_i64]; omega
              clear hk0
              by_cases hp : p < o0
              · have HS : Hid (vehsTo n vs (k + 1)) := vehsTo_step HT.out (by rw [H0.out, H1.out, H2.out, H3.out, H4.out]; exact h1) (fun _ => by rw [HP.out, H0.out]; exact hp)
                go_wp2_with fail
                have hkin := Kin.there wr
                refine wp_region_kin (by kernel_rfl) (by kernel_rfl) ?_
                repeat (go_big_quiet_step ((go_at_call 41; exact Kin.call (l2Vehicle_any n _ _ _ _ _ _ hn1 hn2))))
                refine wpQuiet_nil ?_
                rintro _ ⟨s, rfl⟩
                have HS2 := HB.out.trans (s.below.mono HB.out.size)
                have R2 := below_row s.below (row_lt G3.out) G3.out
                generalize s.w = w2 at *
                go_wp2
                refine ⟨⟨k + 1, by omega, by go_num, HS.out, HS2, R2⟩, by simp [intOf]; omega⟩
              · have HN : Hid (vehsB n vs kv = false) := vehsB_bad hlt (fun h => hp (by have := h.2 hk1; rw [HP.out, H0.out] at this; exact this))
                go_wp2_with fail
                have hkin := Kin.there wr
                refine wp_region_kin (by kernel_rfl) (by kernel_rfl) ?_
                repeat (go_big_quiet_step ((go_at_call 41; exact Kin.call (l2Vehicle_any n _ _ _ _ _ _ hn1 hn2))))
                refine wpQuiet_nil ?_
                rintro _ ⟨s, rfl⟩
                have HS2 := HB.out.trans (s.below.mono HB.out.size)
                have R2 := below_row s.below (row_lt G3.out) G3.out
                generalize s.w = w2 at *
                go_wp2
                go_ret
                exact ⟨ret_bool (by simp [caseB_def, HN.out]), HS2⟩
        · have hkx : k = kv := by omega
          have HN : Hid (vehsB n vs kv = true) := vehsB_yes (by omega) (hkx ▸ HT.out)
          clear hkx g3 hb
          go_wp2
          go_ret
          exact ⟨ret_bool (by rw [caseB_def, HM.out, HO2.out, HN.out, hf]; rfl), HB.out⟩

theorem specCase_any (n fine : Int) (a ao av : Option Addr) (cap ko co kv cv : Nat) (zs os vs : List Int) (w : World) (hA : IntsAt w a zs) (hO : IntsAt w ao os) (hV : IntsAt w av vs) (hlo : os.length = ko * 6) (hlv : vs.length = kv * 5) (hko : ko ≤ 9223372036854775807) (hkv : kv ≤ 9223372036854775807) :
    Calls Try.prog 11 #[.agg #[.int .i64 n, .slice a zs.length cap, .slice ao ko co, .slice av kv cv, .int .i64 fine]] w fun e w' => e = .returned (.bool (caseB n zs os vs ko kv fine)) ∧ Below w.heap.size w w' := by
  by_cases h : matB n zs = true ∧ ko ≤ 12 ∧ kv ≤ 5 ∧ inB fine 0 1000000 = true
  · exact specCase_loop n fine a ao av cap ko co kv cv zs os vs w hA hO hV hlo hlv h.1 h.2.1 h.2.2.1 h.2.2.2
  · exact specCase_no n fine a ao av cap ko co kv cv zs os vs w hA hko hkv h

end Go.Proofs.Ythljonnhkleglaa

namespace Go.Proofs.Ythljonnhkleglaa
open Go.RowKit

theorem keep_set {W : World} {b o k i : Nat} {v x : Value} (h : W.cell? ⟨b, o, none⟩ = some x) (hne : b ≠ k) : (W.setCell ⟨k, i, none⟩ v).cell? ⟨b, o, none⟩ = some x := by
  rw [World.cell?_of_block (w := W) (heap_setCell_other W ⟨k, i, none⟩ b v hne)]; exact h
theorem row_set' {W : World} {g k i : Nat} {o : Obj} {v : Value} (h : W.heap[g]? = some o) (hne : g ≠ k) : (W.setCell ⟨k, i, none⟩ v).heap[g]? = some o := by
  rw [heap_setCell_other _ _ _ _ (by simpa using hne)]; exact h
/-- Six cells that were written one behind the other. -/
theorem row_set6 {W : World} {g : Nat} {z0 z1 z2 z3 z4 z5 o0 o1 o2 o3 o4 o5 : Value} {T : TypeId} (h : W.heap[g]? = some (.cells #[z0, z1, z2, z3, z4, z5] T (0, 0))) :
    ((((((W.setCell ⟨g, 0, none⟩ o0).setCell ⟨g, 1, none⟩ o1).setCell ⟨g, 2, none⟩ o2).setCell ⟨g, 3, none⟩ o3).setCell ⟨g, 4, none⟩ o4).setCell ⟨g, 5, none⟩ o5).heap[g]? = some (.cells #[o0, o1, o2, o3, o4, o5] T (0, 0)) :=
  heap_setCell_same _ _ _ _ _ _ (heap_setCell_same _ _ _ _ _ _ (heap_setCell_same _ _ _ _ _ _ (heap_setCell_same _ _ _ _ _ _ (heap_setCell_same _ _ _ _ _ _ (heap_setCell_same _ _ _ _ _ _ h)))))

theorem ints_cell {w : World} {b off : Nat} {zs : List Int} (h : IntsAt w (some ⟨b, off, none⟩) zs) {j : Nat} (hj : j < zs.length) {v : Int} (hv : zs.getD j 0 = v) : w.cell? ⟨b, off + j, none⟩ = some (.int .i64 v) := by
  obtain ⟨b', off', e, hc⟩ := h j hj
  simp at e
  obtain ⟨rfl, rfl⟩ := e
  rw [hc, hv]

/-- A case and a route in their boxes. -/
def CR (w W : World) (cs rs : Array Value) : Prop := Below w.heap.size w W ∧ W.heap[w.heap.size]? = some (.cells cs 30 (0, 0)) ∧ W.heap[w.heap.size + 1]? = some (.cells rs 44 (0, 0))
theorem CR.new (w : World) (cs rs : Array Value) : CR w ((w.alloc (.cells cs 30)).alloc (.cells rs 44)) cs rs :=
  ⟨((Below.refl _ _).alloc (Nat.le_refl _) _).alloc (by simp) _, heap_alloc2_old _ _ _, heap_alloc2_new _ _ _⟩
theorem CR.below {w W W' : World} {cs rs : Array Value} (h : CR w W cs rs) (hb : Below W.heap.size W W') : CR w W' cs rs :=
  ⟨h.1.trans (hb.mono h.1.size), below_row hb (row_lt h.2.1) h.2.1, below_row hb (row_lt h.2.2) h.2.2⟩
theorem CR.drew {w W : World} {cs rs : Array Value} (h : CR w W cs rs) : CR w W.drew cs rs := h.below (Below.refl _ _).drew
theorem CR.alloc {w W : World} {cs rs : Array Value} (h : CR w W cs rs) (o : Obj) : CR w (W.alloc o) cs rs := h.below ((Below.refl _ _).alloc (Nat.le_refl _) _)
theorem CR.set {w W : World} {cs rs : Array Value} (h : CR w W cs rs) {k i : Nat} {v : Value} (hk : w.heap.size + 1 < k) : CR w (W.setCell ⟨k, i, none⟩ v) cs rs :=
  ⟨h.1.setCell (by simp; omega) _, row_set' h.2.1 (by omega), row_set' h.2.2 (by omega)⟩
theorem CR.big {w W : World} {cs rs : Array Value} (h : CR w W cs rs) : w.heap.size + 1 < W.heap.size := row_lt h.2.2

end Go.Proofs.Ythljonnhkleglaa

namespace Go.Proofs.Ythljonnhkleglaa
open Go.RowKit

set_option maxHeartbeats 1000000 in
theorem specLoad_any (n fine : Int) (a ao av bi : Option Addr) (cap ko co kv cv c2 : Nat) (zs os vs ids : List Int) (w : World) (hA : IntsAt w a zs) (hO : IntsAt w ao os) (hV : IntsAt w av vs) (hI : IntsAt w bi ids) (hlo : os.length = ko * 6) (hlv : vs.length = kv * 5) (hko : ko ≤ 9223372036854775807) (hkv : kv ≤ 9223372036854775807) (hli : ids.length ≤ 9223372036854775807) :
    Calls Try.prog 10 #[.agg #[.int .i64 n, .slice a zs.length cap, .slice ao ko co, .slice av kv cv, .int .i64 fine], .slice bi ids.length c2] w fun e w' => e = .returned (.int .i64 (loadV (caseB n zs os vs ko kv fine) os ko ids)) ∧ Below w.heap.size w w' := by
  have HB0 : Hid (Below w.heap.size w (w.alloc (Obj.cells #[Value.int IntKind.i64 n, Value.slice a zs.length cap, Value.slice ao ko co, Value.slice av kv cv, Value.int IntKind.i64 fine] 30))) := (Below.refl _ _).alloc (Nat.le_refl _) _
  have HA : Hid (IntsAt w a zs) := hA
  have HO : Hid (IntsAt w ao os) := hO
  have HV : Hid (IntsAt w av vs) := hV
  have HI : Hid (IntsAt w bi ids) := hI
  have HLO : Hid _ := hlo
  have HLV : Hid _ := hlv
  clear hA hO hV hI hlo hlv
  obtain ⟨r, HR⟩ : ∃ r, Hid (loadV (caseB n zs os vs ko kv fine) os ko ids = r) := ⟨_, rfl⟩
  rw [HR.out]
  go_enter Try.func10, Try.ntmps10
  go_wp2_with fail
  refine (specCase_any n fine a ao av cap ko co kv cv zs os vs _ (HA.out.below HB0.out) (HO.out.below HB0.out) (HV.out.below HB0.out) HLO.out HLV.out hko hkv).mono ?_
  rintro e w1 ⟨rfl, hb⟩
  obtain ⟨b1, p1⟩ := box5 hb
  have B1 : Hid (Below w.heap.size w w1) := b1
  have P1 : Hid _ := p1
  clear hb b1 p1 HB0
  cases hc : caseB n zs os vs ko kv fine
  · have HV1 : Hid (r = -1) := HR.out.symm.trans (loadV_no (by rw [hc]; simp))
    go_wp2
    go_ret
    exact ⟨ret_int HV1.out.symm, B1.out⟩
  · by_cases h12 : ids.length ≤ 12
    · have HOB : Hid (ordsB n os ko = true) := caseB_ords hc
      have HC : Hid (caseB n zs os vs ko kv fine = true) := hc
      clear hc
      go_wp2_with fail
      go_loopw [5, 6] (fun sm t wr => ∃ k : Nat, k ≤ ids.length ∧ t = .int .i64 k ∧ sm = .int .i64 (loadTo os ko ids k) ∧ thereTo os ko ids k ∧ Below w.heap.size w wr ∧ wr.heap[w.heap.size]? = some (.cells #[Value.int IntKind.i64 n, Value.slice a zs.length cap, Value.slice ao ko co, Value.slice av kv cv, Value.int IntKind.i64 fine] 30 (0, 0))) (fun _ t _ => ids.length - (intOf t).toNat)
      case atStart => exact ⟨0, Nat.zero_le _, rfl, rfl, fun j hj => by omega, B1.out, P1.out⟩
      case round =>
        clear B1 P1
        obtain ⟨k, hk, rfl, rfl, hth, hb, hp⟩ := hrel
        have hbd := loadTo_bd HOB.out ids k
        have HT : Hid (thereTo os ko ids k) := hth
        have HB : Hid (Below w.heap.size w wr) := hb
        have HP : Hid _ := hp
        obtain ⟨c0, c1, c2', c3, c4⟩ := cells5 hp
        obtain ⟨s0, HS0⟩ : ∃ s, Hid (loadTo os ko ids k = s) := ⟨_, rfl⟩
        rw [HS0.out] at hbd ⊢
        clear hth hb hp
        by_cases hlt : k < ids.length
        · obtain ⟨b, off, rfl, hcs⟩ := IntsAt.some (IntsAt.below HI.out HB.out) hlt
          have ct := hcs k hlt
          clear hcs
          obtain ⟨id, HID⟩ : ∃ i, Hid (ids.getD k 0 = i) := ⟨_, rfl⟩
          rw [HID.out] at ct
          have hl2 := fnd6F_load HOB.out id
          have hlw := row_lt HP.out
          have hlb := block_lt_of_cell ct
          simp at hlb
          obtain ⟨o0, H0⟩ : ∃ t, Hid (fnd6F os ko id 0 = t) := ⟨_, rfl⟩
          obtain ⟨o1, H1⟩ : ∃ t, Hid (fnd6F os ko id 1 = t) := ⟨_, rfl⟩
          obtain ⟨o2, H2⟩ : ∃ t, Hid (fnd6F os ko id 2 = t) := ⟨_, rfl⟩
          obtain ⟨o3, H3⟩ : ∃ t, Hid (fnd6F os ko id 3 = t) := ⟨_, rfl⟩
          obtain ⟨o4, H4⟩ : ∃ t, Hid (fnd6F os ko id 4 = t) := ⟨_, rfl⟩
          obtain ⟨o5, H5⟩ : ∃ t, Hid (fnd6F os ko id 5 = t) := ⟨_, rfl⟩
          rw [H2.out] at hl2
          have HL1 : Hid (loadTo os ko ids (k + 1) = s0 + o2) := by
            show _ = _
            unfold loadTo
            rw [HS0.out, HID.out, H2.out]
          cases ht : fnd6T os ko id
          · have HV1 : Hid (r = -1) := HR.out.symm.trans (loadV_no (by
              rintro ⟨_, _, h3⟩
              have := h3 k hlt
              rw [HID.out, ht] at this
              cases this))
            have HTT : Hid _ := ht
            clear ht
            have HLB : Hid _ := hlb
            have HCT : Hid _ := ct
            have HPA : Hid ((wr.alloc (Obj.cells #[Value.int IntKind.i64 0, Value.int IntKind.i64 0, Value.int IntKind.i64 0, Value.int IntKind.i64 0, Value.int IntKind.i64 0, Value.int IntKind.i64 0] 36)).heap[w.heap.size]? = _) := (heap_alloc_old _ _ (row_lt HP.out)).trans HP.out
            have HPL : Hid _ := row_lt HPA.out
            have HCA : Hid ((wr.alloc (Obj.cells #[Value.int IntKind.i64 0, Value.int IntKind.i64 0, Value.int IntKind.i64 0, Value.int IntKind.i64 0, Value.int IntKind.i64 0, Value.int IntKind.i64 0] 36)).cell? ⟨b, off + k, none⟩ = _) := (((Below.refl wr.heap.size wr).alloc (Nat.le_refl _) _).cell (p := ⟨b, off + k, none⟩) hlb).trans ct
            have HCL : Hid _ := block_lt_of_cell HCA.out
            go_wp2_with fail
            go_region_held3 (fun W => W.cell? ⟨w.heap.size, 0, none⟩ = some (.int .i64 n) ∧ W.cell? ⟨w.heap.size, 1, none⟩ = some (.slice a zs.length cap) ∧ W.cell? ⟨w.heap.size, 2, none⟩ = some (.slice ao ko co) ∧ W.cell? ⟨w.heap.size, 3, none⟩ = some (.slice av kv cv) ∧ W.cell? ⟨w.heap.size, 4, none⟩ = some (.int .i64 fine) ∧ W.cell? ⟨b, off + k, none⟩ = some (.int .i64 id)) (first | with_reducible exact kS | with_reducible exact ⟨(keep_set (keep_set (keep_set (keep_set (keep_set (keep_set kS.1 (Nat.ne_of_lt hlw)) (Nat.ne_of_lt hlw)) (Nat.ne_of_lt hlw)) (Nat.ne_of_lt hlw)) (Nat.ne_of_lt hlw)) (Nat.ne_of_lt hlw)), (keep_set (keep_set (keep_set (keep_set (keep_set (keep_set kS.2.1 (Nat.ne_of_lt hlw)) (Nat.ne_of_lt hlw)) (Nat.ne_of_lt hlw)) (Nat.ne_of_lt hlw)) (Nat.ne_of_lt hlw)) (Nat.ne_of_lt hlw)), (keep_set (keep_set (keep_set (keep_set (keep_set (keep_set kS.2.2.1 (Nat.ne_of_lt hlw)) (Nat.ne_of_lt hlw)) (Nat.ne_of_lt hlw)) (Nat.ne_of_lt hlw)) (Nat.ne_of_lt hlw)) (Nat.ne_of_lt hlw)), (keep_set (keep_set (keep_set (keep_set (keep_set (keep_set kS.2.2.2.1 (Nat.ne_of_lt hlw)) (Nat.ne_of_lt hlw)) (Nat.ne_of_lt hlw)) (Nat.ne_of_lt hlw)) (Nat.ne_of_lt hlw)) (Nat.ne_of_lt hlw)), (keep_set (keep_set (keep_set (keep_set (keep_set (keep_set kS.2.2.2.2.1 (Nat.ne_of_lt hlw)) (Nat.ne_of_lt hlw)) (Nat.ne_of_lt hlw)) (Nat.ne_of_lt hlw)) (Nat.ne_of_lt hlw)) (Nat.ne_of_lt hlw)), (keep_set (keep_set (keep_set (keep_set (keep_set (keep_set kS.2.2.2.2.2 (Nat.ne_of_lt hlb)) (Nat.ne_of_lt hlb)) (Nat.ne_of_lt hlb)) (Nat.ne_of_lt hlb)) (Nat.ne_of_lt hlb)) (Nat.ne_of_lt hlb))⟩ | go_keep) ((first
              | (go_at_call 37
                 with_reducible refine (l2At_any n fine id a ao av _ cap ko co kv cv os wr.drew ?_ HLO.out hko).mono ?_
                 · exact HO.out.below HB.out.drew
                 rintro e w2 ⟨rfl, hb2⟩
                 rw [H0.out, H1.out, H2.out, H3.out, H4.out, H5.out, HTT.out]
                 have HP2 := below_row hb2 (row_lt HP.out) HP.out
                 obtain ⟨k0, k1, k2, k3, k4⟩ := cells5 HP2
                 have k5 := (hb2.cell (p := ⟨b, off + k, none⟩) HLB.out).trans HCT.out
                 have kS := And.intro k0 (And.intro k1 (And.intro k2 (And.intro k3 (And.intro k4 k5))))
                 have R2 : Hid _ := HP2
                 have B2 : Hid (Below w.heap.size w w2) := HB.out.drew.trans (hb2.mono HB.out.drew.size)
                 clear hb2 HP2 k0 k1 k2 k3 k4 k5)
              | (go_at_call 37
                 with_reducible refine (l2At_any n fine id a ao av _ cap ko co kv cv os (wr.alloc (Obj.cells #[Value.int IntKind.i64 0, Value.int IntKind.i64 0, Value.int IntKind.i64 0, Value.int IntKind.i64 0, Value.int IntKind.i64 0, Value.int IntKind.i64 0] 36)).drew ?_ HLO.out hko).mono ?_
                 · exact HO.out.below (HB.out.alloc HB.out.size (Obj.cells #[Value.int IntKind.i64 0, Value.int IntKind.i64 0, Value.int IntKind.i64 0, Value.int IntKind.i64 0, Value.int IntKind.i64 0, Value.int IntKind.i64 0] 36)).drew
                 rintro e w2 ⟨rfl, hb2⟩
                 rw [H0.out, H1.out, H2.out, H3.out, H4.out, H5.out, HTT.out]
                 have HP2 := below_row hb2 HPL.out HPA.out
                 obtain ⟨k0, k1, k2, k3, k4⟩ := cells5 HP2
                 have k5 := (hb2.cell (p := ⟨b, off + k, none⟩) HCL.out).trans HCA.out
                 have kS := And.intro k0 (And.intro k1 (And.intro k2 (And.intro k3 (And.intro k4 k5))))
                 obtain ⟨z0, z1, z2, z3, z4, z5⟩ := cells6 (below_row hb2 (k := wr.heap.size) (by simp) (heap_alloc_new wr (Obj.cells #[Value.int IntKind.i64 0, Value.int IntKind.i64 0, Value.int IntKind.i64 0, Value.int IntKind.i64 0, Value.int IntKind.i64 0, Value.int IntKind.i64 0] 36)))
                 have zf := fun i => frozen_of_row _ _ i _ _ (below_row hb2 (k := wr.heap.size) (by simp) (heap_alloc_new wr (Obj.cells #[Value.int IntKind.i64 0, Value.int IntKind.i64 0, Value.int IntKind.i64 0, Value.int IntKind.i64 0, Value.int IntKind.i64 0, Value.int IntKind.i64 0] 36)))
                 have R2 : Hid _ := HP2
                 have B2 : Hid (Below w.heap.size w w2) := (HB.out.alloc HB.out.size (Obj.cells #[Value.int IntKind.i64 0, Value.int IntKind.i64 0, Value.int IntKind.i64 0, Value.int IntKind.i64 0, Value.int IntKind.i64 0, Value.int IntKind.i64 0] 36)).drew.trans (hb2.mono (HB.out.alloc HB.out.size (Obj.cells #[Value.int IntKind.i64 0, Value.int IntKind.i64 0, Value.int IntKind.i64 0, Value.int IntKind.i64 0, Value.int IntKind.i64 0, Value.int IntKind.i64 0] 36)).drew.size)
                 clear hb2 HP2 k0 k1 k2 k3 k4 k5)))
            all_goals
              go_wp2
              go_ret
              exact ⟨ret_int HV1.out.symm, (by first | (with_reducible refine Below.alloc ?_ B2.out.size _; exact B2.out) | (repeat (first | with_reducible exact B2.out | with_reducible refine Below.setCell ?_ HB.out.size _)))⟩
          · have HT1 : Hid (thereTo os ko ids (k + 1)) := by
              intro j hj
              by_cases e : j = k
              · rw [e, HID.out]; exact ht
              · exact HT.out j (by omega)
            have HTT : Hid _ := ht
            clear ht
            have HLB : Hid _ := hlb
            have HCT : Hid _ := ct
            have HPA : Hid ((wr.alloc (Obj.cells #[Value.int IntKind.i64 0, Value.int IntKind.i64 0, Value.int IntKind.i64 0, Value.int IntKind.i64 0, Value.int IntKind.i64 0, Value.int IntKind.i64 0] 36)).heap[w.heap.size]? = _) := (heap_alloc_old _ _ (row_lt HP.out)).trans HP.out
            have HPL : Hid _ := row_lt HPA.out
            have HCA : Hid ((wr.alloc (Obj.cells #[Value.int IntKind.i64 0, Value.int IntKind.i64 0, Value.int IntKind.i64 0, Value.int IntKind.i64 0, Value.int IntKind.i64 0, Value.int IntKind.i64 0] 36)).cell? ⟨b, off + k, none⟩ = _) := (((Below.refl wr.heap.size wr).alloc (Nat.le_refl _) _).cell (p := ⟨b, off + k, none⟩) hlb).trans ct
            have HCL : Hid _ := block_lt_of_cell HCA.out
            go_wp2_with fail
            go_region_held3 (fun W => W.cell? ⟨w.heap.size, 0, none⟩ = some (.int .i64 n) ∧ W.cell? ⟨w.heap.size, 1, none⟩ = some (.slice a zs.length cap) ∧ W.cell? ⟨w.heap.size, 2, none⟩ = some (.slice ao ko co) ∧ W.cell? ⟨w.heap.size, 3, none⟩ = some (.slice av kv cv) ∧ W.cell? ⟨w.heap.size, 4, none⟩ = some (.int .i64 fine) ∧ W.cell? ⟨b, off + k, none⟩ = some (.int .i64 id)) (first | with_reducible exact kS | with_reducible exact ⟨(keep_set (keep_set (keep_set (keep_set (keep_set (keep_set kS.1 (Nat.ne_of_lt hlw)) (Nat.ne_of_lt hlw)) (Nat.ne_of_lt hlw)) (Nat.ne_of_lt hlw)) (Nat.ne_of_lt hlw)) (Nat.ne_of_lt hlw)), (keep_set (keep_set (keep_set (keep_set (keep_set (keep_set kS.2.1 (Nat.ne_of_lt hlw)) (Nat.ne_of_lt hlw)) (Nat.ne_of_lt hlw)) (Nat.ne_of_lt hlw)) (Nat.ne_of_lt hlw)) (Nat.ne_of_lt hlw)), (keep_set (keep_set (keep_set (keep_set (keep_set (keep_set kS.2.2.1 (Nat.ne_of_lt hlw)) (Nat.ne_of_lt hlw)) (Nat.ne_of_lt hlw)) (Nat.ne_of_lt hlw)) (Nat.ne_of_lt hlw)) (Nat.ne_of_lt hlw)), (keep_set (keep_set (keep_set (keep_set (keep_set (keep_set kS.2.2.2.1 (Nat.ne_of_lt hlw)) (Nat.ne_of_lt hlw)) (Nat.ne_of_lt hlw)) (Nat.ne_of_lt hlw)) (Nat.ne_of_lt hlw)) (Nat.ne_of_lt hlw)), (keep_set (keep_set (keep_set (keep_set (keep_set (keep_set kS.2.2.2.2.1 (Nat.ne_of_lt hlw)) (Nat.ne_of_lt hlw)) (Nat.ne_of_lt hlw)) (Nat.ne_of_lt hlw)) (Nat.ne_of_lt hlw)) (Nat.ne_of_lt hlw)), (keep_set (keep_set (keep_set (keep_set (keep_set (keep_set kS.2.2.2.2.2 (Nat.ne_of_lt hlb)) (Nat.ne_of_lt hlb)) (Nat.ne_of_lt hlb)) (Nat.ne_of_lt hlb)) (Nat.ne_of_lt hlb)) (Nat.ne_of_lt hlb))⟩ | go_keep) ((first
              | (go_at_call 37
                 with_reducible refine (l2At_any n fine id a ao av _ cap ko co kv cv os wr.drew ?_ HLO.out hko).mono ?_
                 · exact HO.out.below HB.out.drew
                 rintro e w2 ⟨rfl, hb2⟩
                 rw [H0.out, H1.out, H2.out, H3.out, H4.out, H5.out, HTT.out]
                 have HP2 := below_row hb2 (row_lt HP.out) HP.out
                 obtain ⟨k0, k1, k2, k3, k4⟩ := cells5 HP2
                 have k5 := (hb2.cell (p := ⟨b, off + k, none⟩) HLB.out).trans HCT.out
                 have kS := And.intro k0 (And.intro k1 (And.intro k2 (And.intro k3 (And.intro k4 k5))))
                 have R2 : Hid _ := HP2
                 have B2 : Hid (Below w.heap.size w w2) := HB.out.drew.trans (hb2.mono HB.out.drew.size)
                 clear hb2 HP2 k0 k1 k2 k3 k4 k5)
              | (go_at_call 37
                 with_reducible refine (l2At_any n fine id a ao av _ cap ko co kv cv os (wr.alloc (Obj.cells #[Value.int IntKind.i64 0, Value.int IntKind.i64 0, Value.int IntKind.i64 0, Value.int IntKind.i64 0, Value.int IntKind.i64 0, Value.int IntKind.i64 0] 36)).drew ?_ HLO.out hko).mono ?_
                 · exact HO.out.below (HB.out.alloc HB.out.size (Obj.cells #[Value.int IntKind.i64 0, Value.int IntKind.i64 0, Value.int IntKind.i64 0, Value.int IntKind.i64 0, Value.int IntKind.i64 0, Value.int IntKind.i64 0] 36)).drew
                 rintro e w2 ⟨rfl, hb2⟩
                 rw [H0.out, H1.out, H2.out, H3.out, H4.out, H5.out, HTT.out]
                 have HP2 := below_row hb2 HPL.out HPA.out
                 obtain ⟨k0, k1, k2, k3, k4⟩ := cells5 HP2
                 have k5 := (hb2.cell (p := ⟨b, off + k, none⟩) HCL.out).trans HCA.out
                 have kS := And.intro k0 (And.intro k1 (And.intro k2 (And.intro k3 (And.intro k4 k5))))
                 obtain ⟨z0, z1, z2, z3, z4, z5⟩ := cells6 (below_row hb2 (k := wr.heap.size) (by simp) (heap_alloc_new wr (Obj.cells #[Value.int IntKind.i64 0, Value.int IntKind.i64 0, Value.int IntKind.i64 0, Value.int IntKind.i64 0, Value.int IntKind.i64 0, Value.int IntKind.i64 0] 36)))
                 have zf := fun i => frozen_of_row _ _ i _ _ (below_row hb2 (k := wr.heap.size) (by simp) (heap_alloc_new wr (Obj.cells #[Value.int IntKind.i64 0, Value.int IntKind.i64 0, Value.int IntKind.i64 0, Value.int IntKind.i64 0, Value.int IntKind.i64 0, Value.int IntKind.i64 0] 36)))
                 have R2 : Hid _ := HP2
                 have B2 : Hid (Below w.heap.size w w2) := (HB.out.alloc HB.out.size (Obj.cells #[Value.int IntKind.i64 0, Value.int IntKind.i64 0, Value.int IntKind.i64 0, Value.int IntKind.i64 0, Value.int IntKind.i64 0, Value.int IntKind.i64 0] 36)).drew.trans (hb2.mono (HB.out.alloc HB.out.size (Obj.cells #[Value.int IntKind.i64 0, Value.int IntKind.i64 0, Value.int IntKind.i64 0, Value.int IntKind.i64 0, Value.int IntKind.i64 0, Value.int IntKind.i64 0] 36)).drew.size)
                 clear hb2 HP2 k0 k1 k2 k3 k4 k5)))
            all_goals
              go_wp2
              refine ⟨⟨k + 1, by omega, by go_num, by rw [HL1.out], HT1.out, (by first | (with_reducible refine Below.alloc ?_ B2.out.size _; exact B2.out) | (repeat (first | with_reducible exact B2.out | with_reducible refine Below.setCell ?_ HB.out.size _))), (by first | (with_reducible refine row_set' ?_ (Nat.ne_of_lt hlw); repeat (first | with_reducible exact R2.out | with_reducible refine row_set' ?_ (Nat.ne_of_lt hlw))) | (exact (heap_alloc_old _ _ (row_lt R2.out)).trans R2.out))⟩, by simp [intOf]; omega⟩
        · have hkl : k = ids.length := by omega
          have HV1 : Hid (r = s0) := by
            have := loadV_yes HC.out h12 (hkl ▸ HT.out)
            rw [HR.out, ← hkl, HS0.out] at this
            exact this
          clear hkl
          go_wp2
          go_ret
          exact ⟨ret_int HV1.out.symm, HB.out⟩
    · have HV1 : Hid (r = -1) := HR.out.symm.trans (loadV_no (fun h => h12 h.2.1))
      go_wp2
      go_ret
      exact ⟨ret_int HV1.out.symm, B1.out⟩

end Go.Proofs.Ythljonnhkleglaa

namespace Go.Proofs.Ythljonnhkleglaa
open Go.RowKit

set_option maxHeartbeats 1000000 in
theorem implOrdOf_any (n fine id : Int) (a ao av : Option Addr) (cap ko co kv cv : Nat) (zs os vs : List Int) (w : World) (hA : IntsAt w a zs) (hO : IntsAt w ao os) (hV : IntsAt w av vs) (hlo : os.length = ko * 6) (hlv : vs.length = kv * 5) (hko : ko ≤ 9223372036854775807) (hkv : kv ≤ 9223372036854775807) :
    Calls Try.prog 12 #[.agg #[.int .i64 n, .slice a zs.length cap, .slice ao ko co, .slice av kv cv, .int .i64 fine], .int .i64 id] w fun e w' => e = .returned (.tuple #[.agg #[.int .i64 (got6F (caseB n zs os vs ko kv fine) os ko id 0), .int .i64 (got6F (caseB n zs os vs ko kv fine) os ko id 1), .int .i64 (got6F (caseB n zs os vs ko kv fine) os ko id 2), .int .i64 (got6F (caseB n zs os vs ko kv fine) os ko id 3), .int .i64 (got6F (caseB n zs os vs ko kv fine) os ko id 4), .int .i64 (got6F (caseB n zs os vs ko kv fine) os ko id 5)], .bool (got6T (caseB n zs os vs ko kv fine) os ko id)]) ∧ Below w.heap.size w w' := by
  have HB0 : Hid (Below w.heap.size w ((w.alloc (Obj.cells #[Value.int IntKind.i64 n, Value.slice a zs.length cap, Value.slice ao ko co, Value.slice av kv cv, Value.int IntKind.i64 fine] 30)).alloc (Obj.cells #[Value.int IntKind.i64 0, Value.int IntKind.i64 0, Value.int IntKind.i64 0, Value.int IntKind.i64 0, Value.int IntKind.i64 0, Value.int IntKind.i64 0] 36))) := ((Below.refl _ _).alloc (Nat.le_refl _) _).alloc (by simp) _
  have HA : Hid (IntsAt w a zs) := hA
  have HO : Hid (IntsAt w ao os) := hO
  have HV : Hid (IntsAt w av vs) := hV
  have HLO : Hid _ := hlo
  have HLV : Hid _ := hlv
  clear hA hO hV hlo hlv
  go_enter Try.func12, Try.ntmps12
  go_wp2_with fail
  have P0 : Hid (((w.alloc (Obj.cells #[Value.int IntKind.i64 n, Value.slice a zs.length cap, Value.slice ao ko co, Value.slice av kv cv, Value.int IntKind.i64 fine] 30)).alloc (Obj.cells #[Value.int IntKind.i64 0, Value.int IntKind.i64 0, Value.int IntKind.i64 0, Value.int IntKind.i64 0, Value.int IntKind.i64 0, Value.int IntKind.i64 0] 36)).heap[w.heap.size]? = _) := heap_alloc2_old _ _ _
  have Q0 : Hid (((w.alloc (Obj.cells #[Value.int IntKind.i64 n, Value.slice a zs.length cap, Value.slice ao ko co, Value.slice av kv cv, Value.int IntKind.i64 fine] 30)).alloc (Obj.cells #[Value.int IntKind.i64 0, Value.int IntKind.i64 0, Value.int IntKind.i64 0, Value.int IntKind.i64 0, Value.int IntKind.i64 0, Value.int IntKind.i64 0] 36)).heap[w.heap.size + 1]? = _) := heap_alloc2_new _ _ _
  generalize (w.alloc (Obj.cells #[Value.int IntKind.i64 n, Value.slice a zs.length cap, Value.slice ao ko co, Value.slice av kv cv, Value.int IntKind.i64 fine] 30)).alloc (Obj.cells #[Value.int IntKind.i64 0, Value.int IntKind.i64 0, Value.int IntKind.i64 0, Value.int IntKind.i64 0, Value.int IntKind.i64 0, Value.int IntKind.i64 0] 36) = W at *
  refine (implCase_any n fine a ao av cap ko co kv cv zs os vs _ (HA.out.below HB0.out) (HO.out.below HB0.out) (HV.out.below HB0.out) HLO.out HLV.out hko hkv).mono ?_
  rintro e w1 ⟨rfl, hb⟩
  obtain ⟨b1, p1⟩ := box_more hb HB0.out P0.out
  have q1' := below_row hb (row_lt Q0.out) Q0.out
  have B1 : Hid (Below w.heap.size w w1) := b1
  have P1 : Hid _ := p1
  have Q1 : Hid _ := q1'
  clear hb b1 p1 q1' HB0 P0 Q0
  obtain ⟨c0, c1, c2, c3, c4⟩ := cells5 P1.out
  obtain ⟨q0, q1, q2, q3, q4, q5⟩ := cells6 Q1.out
  have f0 := fun i => frozen_of_row _ _ i _ _ Q1.out
  cases hc : caseB n zs os vs ko kv fine
  · go_wp2
    refine bodyPost_ret (v := .tuple #[.agg #[.int .i64 0, .int .i64 0, .int .i64 0, .int .i64 0, .int .i64 0, .int .i64 0], .bool false]) (by simp [results, Try.results12, go_sem, q0, q1, q2, q3, q4, q5]) rfl ⟨?_, ?_⟩
    · simp [got6F, got6T, hc]
    · repeat (first | with_reducible exact B1.out | with_reducible refine Below.setCell ?_ (by simp <;> omega) _)
  · go_wp2_with fail
    refine (findOrder_any n fine id a ao av _ cap ko co kv cv os _ (HO.out.below B1.out) HLO.out hko).mono ?_
    rintro e w2 ⟨rfl, hb⟩
    obtain ⟨b2, q2'⟩ := box_more hb B1.out Q1.out
    have B2 : Hid (Below w.heap.size w w2) := b2
    have Q2 : Hid _ := q2'
    clear hb b2 q2' c0 c1 c2 c3 c4 q0 q1 q2 q3 q4 q5 f0
    obtain ⟨q0, q1, q2, q3, q4, q5⟩ := cells6 Q2.out
    have f0 := fun i => frozen_of_row _ _ i _ _ Q2.out
    obtain ⟨o0, H0⟩ : ∃ t, Hid (fnd6F os ko id 0 = t) := ⟨_, rfl⟩
    obtain ⟨o1, H1⟩ : ∃ t, Hid (fnd6F os ko id 1 = t) := ⟨_, rfl⟩
    obtain ⟨o2, H2⟩ : ∃ t, Hid (fnd6F os ko id 2 = t) := ⟨_, rfl⟩
    obtain ⟨o3, H3⟩ : ∃ t, Hid (fnd6F os ko id 3 = t) := ⟨_, rfl⟩
    obtain ⟨o4, H4⟩ : ∃ t, Hid (fnd6F os ko id 4 = t) := ⟨_, rfl⟩
    obtain ⟨o5, H5⟩ : ∃ t, Hid (fnd6F os ko id 5 = t) := ⟨_, rfl⟩
    rw [H0.out, H1.out, H2.out, H3.out, H4.out, H5.out]
    obtain ⟨tb, HTB⟩ : ∃ t, Hid (fnd6T os ko id = t) := ⟨_, rfl⟩
    rw [HTB.out]
    go_wp2
    refine bodyPost_ret (v := .tuple #[.agg #[.int .i64 o0, .int .i64 o1, .int .i64 o2, .int .i64 o3, .int .i64 o4, .int .i64 o5], .bool tb]) (by simp [results, Try.results12, go_sem, q0, q1, q2, q3, q4, q5]) rfl ⟨?_, ?_⟩
    · simp [got6F, got6T, hc, H0.out, H1.out, H2.out, H3.out, H4.out, H5.out, HTB.out]
    · repeat (first | with_reducible exact B2.out | with_reducible refine Below.setCell ?_ (by simp <;> omega) _)

end Go.Proofs.Ythljonnhkleglaa

namespace Go.Proofs.Ythljonnhkleglaa
open Go.RowKit

theorem noneToI5_step {zs : List Int} {id : Int} {k : Nat} (h : ∀ j, j < k → og5 zs j 0 ≠ id) (hk : og5 zs k 0 ≠ id) : ∀ j, j < k + 1 → og5 zs j 0 ≠ id := by
  intro j hj
  by_cases e : j = k
  · rw [e]; exact hk
  · exact h j (by omega)

set_option maxHeartbeats 1000000 in
theorem findVehicle_any (n fine id : Int) (a ao av : Option Addr) (lt cap ko co kv cv : Nat) (zs : List Int) (w : World) (hA : IntsAt w av zs) (hl : zs.length = kv * 5) (hlen : kv ≤ 9223372036854775807) :
    Calls Try.prog 42 #[.agg #[.int .i64 n, .slice a lt cap, .slice ao ko co, .slice av kv cv, .int .i64 fine], .int .i64 id] w fun e w' => e = .returned (.tuple #[.agg #[.int .i64 (fnd5F zs kv id 0), .int .i64 (fnd5F zs kv id 1), .int .i64 (fnd5F zs kv id 2), .int .i64 (fnd5F zs kv id 3), .int .i64 (fnd5F zs kv id 4)], .bool (fnd5T zs kv id)]) ∧ Below w.heap.size w w' := by
  have HB0 : Hid (Below w.heap.size w ((w.alloc (Obj.cells #[Value.int IntKind.i64 n, Value.slice a lt cap, Value.slice ao ko co, Value.slice av kv cv, Value.int IntKind.i64 fine] 30)).alloc (Obj.cells #[Value.int IntKind.i64 0, Value.int IntKind.i64 0, Value.int IntKind.i64 0, Value.int IntKind.i64 0, Value.int IntKind.i64 0] 40))) := ((Below.refl _ _).alloc (Nat.le_refl _) _).alloc (by simp) _
  have HA : Hid (IntsAt w av zs) := hA
  have HL : Hid (zs.length = kv * 5) := hl
  clear hA hl
  go_enter Try.func42, Try.ntmps42
  go_wp2_with fail
  have Q0 : Hid (((w.alloc (Obj.cells #[Value.int IntKind.i64 n, Value.slice a lt cap, Value.slice ao ko co, Value.slice av kv cv, Value.int IntKind.i64 fine] 30)).alloc (Obj.cells #[Value.int IntKind.i64 0, Value.int IntKind.i64 0, Value.int IntKind.i64 0, Value.int IntKind.i64 0, Value.int IntKind.i64 0] 40)).heap[w.heap.size + 1]? = _) := heap_alloc2_new _ _ _
  generalize (w.alloc (Obj.cells #[Value.int IntKind.i64 n, Value.slice a lt cap, Value.slice ao ko co, Value.slice av kv cv, Value.int IntKind.i64 fine] 30)).alloc (Obj.cells #[Value.int IntKind.i64 0, Value.int IntKind.i64 0, Value.int IntKind.i64 0, Value.int IntKind.i64 0, Value.int IntKind.i64 0] 40) = W at *
  go_loopw [11] (fun t wr => ∃ k : Nat, k ≤ kv ∧ t = .int .i64 k ∧ (∀ j, j < k → og5 zs j 0 ≠ id) ∧ Below w.heap.size w wr ∧ wr.heap[w.heap.size + 1]? = some (.cells #[Value.int IntKind.i64 0, Value.int IntKind.i64 0, Value.int IntKind.i64 0, Value.int IntKind.i64 0, Value.int IntKind.i64 0] 40 (0, 0))) (fun t _ => kv - (intOf t).toNat)
  case atStart => exact ⟨0, Nat.zero_le _, rfl, fun j hj => by omega, HB0.out, Q0.out⟩
  case round =>
    clear HB0 Q0
    obtain ⟨k, hk, rfl, hno, hb, hq⟩ := hrel
    have HN : Hid (∀ j, j < k → og5 zs j 0 ≠ id) := hno
    have HB : Hid (Below w.heap.size w wr) := hb
    have HQ : Hid _ := hq
    obtain ⟨q0, q1, q2, q3, q4⟩ := cells5 hq
    have f0 := fun i => frozen_of_row _ _ i _ _ hq
    have hqlt := row_lt hq
    clear hno hb hq
    by_cases hlt : k < kv
    · obtain ⟨b, off, rfl, hcs⟩ := IntsAt.some (IntsAt.below HA.out HB.out) (j := k * 5) (by rw [HL.out]; omega)
      obtain ⟨r0, r1, r2, r3, r4⟩ := row5_at hcs HL.out k hlt
      clear hcs
      obtain ⟨o0, H0⟩ : ∃ t, Hid (og5 zs k 0 = t) := ⟨_, rfl⟩
      obtain ⟨o1, H1⟩ : ∃ t, Hid (og5 zs k 1 = t) := ⟨_, rfl⟩
      obtain ⟨o2, H2⟩ : ∃ t, Hid (og5 zs k 2 = t) := ⟨_, rfl⟩
      obtain ⟨o3, H3⟩ : ∃ t, Hid (og5 zs k 3 = t) := ⟨_, rfl⟩
      obtain ⟨o4, H4⟩ : ∃ t, Hid (og5 zs k 4 = t) := ⟨_, rfl⟩
      rw [H0.out] at r0
      rw [H1.out] at r1
      rw [H2.out] at r2
      rw [H3.out] at r3
      rw [H4.out] at r4
      have hlb := block_lt_of_cell r0
      simp at hlb
      by_cases he : o0 = id
      · have heb : (o0 == id) = true := by simp [he]
        have HF : Hid (fnd5 zs kv id = some k) := fnd5_at hlt (by rw [H0.out]; exact he) HN.out
        clear he
        go_wp2
        refine bodyPost_ret (v := .tuple #[.agg #[.int .i64 o0, .int .i64 o1, .int .i64 o2, .int .i64 o3, .int .i64 o4], .bool true]) (by simp [results, Try.results42, go_sem, hqlt, q0, q1, q2, q3, q4]) rfl ⟨?_, ?_⟩
        · rw [fnd5T_at HF.out]; simp only [fnd5F_at HF.out, H0.out, H1.out, H2.out, H3.out, H4.out]
        · repeat (first | with_reducible exact HB.out | with_reducible refine Below.setCell ?_ (by simp <;> omega) _ | with_reducible refine Below.alloc ?_ (by simp [World.setCell]; exact HB.out.size) _)
      · have heb : (o0 == id) = false := by simp [he]
        have HS : Hid (∀ j, j < k + 1 → og5 zs j 0 ≠ id) := noneToI5_step HN.out (by rw [H0.out]; exact he)
        clear he
        go_wp2
        refine ⟨⟨k + 1, by omega, by go_num, HS.out, HB.out.alloc HB.out.size _, ?_⟩, by simp [intOf]; omega⟩
        rw [heap_alloc_old _ _ (row_lt HQ.out)]; exact HQ.out
    · have hkx : k = kv := by omega
      have HF : Hid (fnd5 zs kv id = none) := fnd5_none (hkx ▸ HN.out)
      clear hkx
      go_wp2
      refine bodyPost_ret (v := .tuple #[.agg #[.int .i64 0, .int .i64 0, .int .i64 0, .int .i64 0, .int .i64 0], .bool false]) (by simp [results, Try.results42, go_sem, q0, q1, q2, q3, q4]) rfl ⟨?_, ?_⟩
      · rw [fnd5T_none HF.out]; simp only [fnd5F_none HF.out]
      · repeat (first | with_reducible exact HB.out | with_reducible refine Below.setCell ?_ (by simp <;> omega) _)

end Go.Proofs.Ythljonnhkleglaa

namespace Go.Proofs.Ythljonnhkleglaa
open Go.RowKit

set_option maxHeartbeats 1000000 in
theorem implVehOf_any (n fine id : Int) (a ao av : Option Addr) (cap ko co kv cv : Nat) (zs os vs : List Int) (w : World) (hA : IntsAt w a zs) (hO : IntsAt w ao os) (hV : IntsAt w av vs) (hlo : os.length = ko * 6) (hlv : vs.length = kv * 5) (hko : ko ≤ 9223372036854775807) (hkv : kv ≤ 9223372036854775807) :
    Calls Try.prog 13 #[.agg #[.int .i64 n, .slice a zs.length cap, .slice ao ko co, .slice av kv cv, .int .i64 fine], .int .i64 id] w fun e w' => e = .returned (.tuple #[.agg #[.int .i64 (got5F (caseB n zs os vs ko kv fine) vs kv id 0), .int .i64 (got5F (caseB n zs os vs ko kv fine) vs kv id 1), .int .i64 (got5F (caseB n zs os vs ko kv fine) vs kv id 2), .int .i64 (got5F (caseB n zs os vs ko kv fine) vs kv id 3), .int .i64 (got5F (caseB n zs os vs ko kv fine) vs kv id 4)], .bool (got5T (caseB n zs os vs ko kv fine) vs kv id)]) ∧ Below w.heap.size w w' := by
  have HB0 : Hid (Below w.heap.size w ((w.alloc (Obj.cells #[Value.int IntKind.i64 n, Value.slice a zs.length cap, Value.slice ao ko co, Value.slice av kv cv, Value.int IntKind.i64 fine] 30)).alloc (Obj.cells #[Value.int IntKind.i64 0, Value.int IntKind.i64 0, Value.int IntKind.i64 0, Value.int IntKind.i64 0, Value.int IntKind.i64 0] 40))) := ((Below.refl _ _).alloc (Nat.le_refl _) _).alloc (by simp) _
  have HA : Hid (IntsAt w a zs) := hA
  have HO : Hid (IntsAt w ao os) := hO
  have HV : Hid (IntsAt w av vs) := hV
  have HLO : Hid _ := hlo
  have HLV : Hid _ := hlv
  clear hA hO hV hlo hlv
  go_enter Try.func13, Try.ntmps13
  go_wp2_with fail
  have P0 : Hid (((w.alloc (Obj.cells #[Value.int IntKind.i64 n, Value.slice a zs.length cap, Value.slice ao ko co, Value.slice av kv cv, Value.int IntKind.i64 fine] 30)).alloc (Obj.cells #[Value.int IntKind.i64 0, Value.int IntKind.i64 0, Value.int IntKind.i64 0, Value.int IntKind.i64 0, Value.int IntKind.i64 0] 40)).heap[w.heap.size]? = _) := heap_alloc2_old _ _ _
  have Q0 : Hid (((w.alloc (Obj.cells #[Value.int IntKind.i64 n, Value.slice a zs.length cap, Value.slice ao ko co, Value.slice av kv cv, Value.int IntKind.i64 fine] 30)).alloc (Obj.cells #[Value.int IntKind.i64 0, Value.int IntKind.i64 0, Value.int IntKind.i64 0, Value.int IntKind.i64 0, Value.int IntKind.i64 0] 40)).heap[w.heap.size + 1]? = _) := heap_alloc2_new _ _ _
  generalize (w.alloc (Obj.cells #[Value.int IntKind.i64 n, Value.slice a zs.length cap, Value.slice ao ko co, Value.slice av kv cv, Value.int IntKind.i64 fine] 30)).alloc (Obj.cells #[Value.int IntKind.i64 0, Value.int IntKind.i64 0, Value.int IntKind.i64 0, Value.int IntKind.i64 0, Value.int IntKind.i64 0] 40) = W at *
  refine (implCase_any n fine a ao av cap ko co kv cv zs os vs _ (HA.out.below HB0.out) (HO.out.below HB0.out) (HV.out.below HB0.out) HLO.out HLV.out hko hkv).mono ?_
  rintro e w1 ⟨rfl, hb⟩
  obtain ⟨b1, p1⟩ := box_more hb HB0.out P0.out
  have q1' := below_row hb (row_lt Q0.out) Q0.out
  have B1 : Hid (Below w.heap.size w w1) := b1
  have P1 : Hid _ := p1
  have Q1 : Hid _ := q1'
  clear hb b1 p1 q1' HB0 P0 Q0
  obtain ⟨c0, c1, c2, c3, c4⟩ := cells5 P1.out
  obtain ⟨q0, q1, q2, q3, q4⟩ := cells5 Q1.out
  have f0 := fun i => frozen_of_row _ _ i _ _ Q1.out
  cases hc : caseB n zs os vs ko kv fine
  · go_wp2
    refine bodyPost_ret (v := .tuple #[.agg #[.int .i64 0, .int .i64 0, .int .i64 0, .int .i64 0, .int .i64 0], .bool false]) (by simp [results, Try.results13, go_sem, q0, q1, q2, q3, q4]) rfl ⟨?_, ?_⟩
    · simp [got5F, got5T, hc]
    · repeat (first | with_reducible exact B1.out | with_reducible refine Below.setCell ?_ (by simp <;> omega) _)
  · go_wp2_with fail
    refine (findVehicle_any n fine id a ao av _ cap ko co kv cv vs _ (HV.out.below B1.out) HLV.out hkv).mono ?_
    rintro e w2 ⟨rfl, hb⟩
    obtain ⟨b2, q2'⟩ := box_more hb B1.out Q1.out
    have B2 : Hid (Below w.heap.size w w2) := b2
    have Q2 : Hid _ := q2'
    clear hb b2 q2' c0 c1 c2 c3 c4 q0 q1 q2 q3 q4 f0
    obtain ⟨q0, q1, q2, q3, q4⟩ := cells5 Q2.out
    have f0 := fun i => frozen_of_row _ _ i _ _ Q2.out
    obtain ⟨o0, H0⟩ : ∃ t, Hid (fnd5F vs kv id 0 = t) := ⟨_, rfl⟩
    obtain ⟨o1, H1⟩ : ∃ t, Hid (fnd5F vs kv id 1 = t) := ⟨_, rfl⟩
    obtain ⟨o2, H2⟩ : ∃ t, Hid (fnd5F vs kv id 2 = t) := ⟨_, rfl⟩
    obtain ⟨o3, H3⟩ : ∃ t, Hid (fnd5F vs kv id 3 = t) := ⟨_, rfl⟩
    obtain ⟨o4, H4⟩ : ∃ t, Hid (fnd5F vs kv id 4 = t) := ⟨_, rfl⟩
    rw [H0.out, H1.out, H2.out, H3.out, H4.out]
    obtain ⟨tb, HTB⟩ : ∃ t, Hid (fnd5T vs kv id = t) := ⟨_, rfl⟩
    rw [HTB.out]
    go_wp2
    refine bodyPost_ret (v := .tuple #[.agg #[.int .i64 o0, .int .i64 o1, .int .i64 o2, .int .i64 o3, .int .i64 o4], .bool tb]) (by simp [results, Try.results13, go_sem, q0, q1, q2, q3, q4]) rfl ⟨?_, ?_⟩
    · simp [got5F, got5T, hc, H0.out, H1.out, H2.out, H3.out, H4.out, HTB.out]
    · repeat (first | with_reducible exact B2.out | with_reducible refine Below.setCell ?_ (by simp <;> omega) _)

end Go.Proofs.Ythljonnhkleglaa

namespace Go.Proofs.Ythljonnhkleglaa
open Go.RowKit

set_option maxHeartbeats 400000 in
theorem big_any (a : Option Addr) (c len : Nat) (w : World) (hl : len ≤ 9223372036854775807) :
    Calls Try.prog 7 #[.slice a len c] w fun e w' => e = .returned (.bool (decide (1048576 < len))) ∧ w' = w := by
  by_cases h : 1048576 < len
  · rw [decide_eq_true h]
    go_enter Try.func7, Try.ntmps7
    go_wp2
    go_ret
    exact ⟨by first | rfl | (simp; omega), rfl⟩
  · rw [decide_eq_false h]
    go_enter Try.func7, Try.ntmps7
    go_wp2
    go_ret
    exact ⟨by first | rfl | (simp; omega), rfl⟩

end Go.Proofs.Ythljonnhkleglaa
