import Derived.Test.YtaofpbmdloihgaaDoorPack0
import Derived.Test.YtaofpbmdloihgaaDoorPack1
namespace Go.Proofs.YtaofpbmdloihgaaDoor
open Go.RowKit

set_option maxHeartbeats 400000 in
theorem l2Order_any (n o0 o1 o2 o3 o4 o5 : Int) (w : World) (hn1 : 1 ≤ n) (hn2 : n ≤ 16) :
    Calls Tryd.prog 41 #[.agg #[.int .i64 o0, .int .i64 o1, .int .i64 o2, .int .i64 o3, .int .i64 o4, .int .i64 o5], .int .i64 n] w fun e w' => e = .returned (.bool (ordB n o0 o1 o2 o3 o4 o5)) ∧ Below w.heap.size w w' := by
  cases h0 : inB o0 1 1000000000
  · go_enter Tryd.func41, Tryd.ntmps41
    go_wp2_with (first | (go_at_call 40; refine (l1In_any _ _ _ _).mono ?_; rintro e w' ⟨rfl, rfl⟩))
    go_ret
    exact ⟨ret_bool (by simp [ordB, ordIn, hoursB, h0]), (Below.refl _ _).alloc (Nat.le_refl _) _⟩
  · cases h1 : inB o1 0 (n - 1)
    · go_enter Tryd.func41, Tryd.ntmps41
      go_wp2_with (first | (go_at_call 40; refine (l1In_any _ _ _ _).mono ?_; rintro e w' ⟨rfl, rfl⟩))
      go_ret
      exact ⟨ret_bool (by simp [ordB, ordIn, hoursB, h0, h1]), (Below.refl _ _).alloc (Nat.le_refl _) _⟩
    · cases h2 : inB o2 0 1000
      · go_enter Tryd.func41, Tryd.ntmps41
        go_wp2_with (first | (go_at_call 40; refine (l1In_any _ _ _ _).mono ?_; rintro e w' ⟨rfl, rfl⟩))
        go_ret
        exact ⟨ret_bool (by simp [ordB, ordIn, hoursB, h0, h1, h2]), (Below.refl _ _).alloc (Nat.le_refl _) _⟩
      · cases h3 : inB o3 0 1000000
        · go_enter Tryd.func41, Tryd.ntmps41
          go_wp2_with (first | (go_at_call 40; refine (l1In_any _ _ _ _).mono ?_; rintro e w' ⟨rfl, rfl⟩))
          go_ret
          exact ⟨ret_bool (by simp [ordB, ordIn, hoursB, h0, h1, h2, h3]), (Below.refl _ _).alloc (Nat.le_refl _) _⟩
        · cases h4 : inB o4 o3 1000000
          · go_enter Tryd.func41, Tryd.ntmps41
            go_wp2_with (first | (go_at_call 40; refine (l1In_any _ _ _ _).mono ?_; rintro e w' ⟨rfl, rfl⟩))
            go_ret
            exact ⟨ret_bool (by simp [ordB, ordIn, hoursB, h0, h1, h2, h3, h4]), (Below.refl _ _).alloc (Nat.le_refl _) _⟩
          · cases h5 : inB o5 0 10000
            · go_enter Tryd.func41, Tryd.ntmps41
              go_wp2_with (first | (go_at_call 40; refine (l1In_any _ _ _ _).mono ?_; rintro e w' ⟨rfl, rfl⟩))
              go_ret
              exact ⟨ret_bool (by simp [ordB, ordIn, hoursB, h0, h1, h2, h3, h4, h5]), (Below.refl _ _).alloc (Nat.le_refl _) _⟩
            · go_enter Tryd.func41, Tryd.ntmps41
              go_wp2_with (first | (go_at_call 40; refine (l1In_any _ _ _ _).mono ?_; rintro e w' ⟨rfl, rfl⟩))
              go_ret
              exact ⟨ret_bool (by simp [ordB, ordIn, hoursB, h0, h1, h2, h3, h4, h5]), (Below.refl _ _).alloc (Nat.le_refl _) _⟩

set_option maxHeartbeats 400000 in
theorem l2Vehicle_any (n o0 o1 o2 o3 o4 : Int) (w : World) (hn1 : 1 ≤ n) (hn2 : n ≤ 16) :
    Calls Tryd.prog 42 #[.agg #[.int .i64 o0, .int .i64 o1, .int .i64 o2, .int .i64 o3, .int .i64 o4], .int .i64 n] w fun e w' => e = .returned (.bool (vehB n o0 o1 o2 o3 o4)) ∧ Below w.heap.size w w' := by
  cases h0 : inB o0 1 1000000000
  · go_enter Tryd.func42, Tryd.ntmps42
    go_wp2_with (first | (go_at_call 40; refine (l1In_any _ _ _ _).mono ?_; rintro e w' ⟨rfl, rfl⟩))
    go_ret
    exact ⟨ret_bool (by simp [vehB, vehIn, hoursB, h0]), (Below.refl _ _).alloc (Nat.le_refl _) _⟩
  · cases h1 : inB o1 0 (n - 1)
    · go_enter Tryd.func42, Tryd.ntmps42
      go_wp2_with (first | (go_at_call 40; refine (l1In_any _ _ _ _).mono ?_; rintro e w' ⟨rfl, rfl⟩))
      go_ret
      exact ⟨ret_bool (by simp [vehB, vehIn, hoursB, h0, h1]), (Below.refl _ _).alloc (Nat.le_refl _) _⟩
    · cases h2 : inB o2 0 1000
      · go_enter Tryd.func42, Tryd.ntmps42
        go_wp2_with (first | (go_at_call 40; refine (l1In_any _ _ _ _).mono ?_; rintro e w' ⟨rfl, rfl⟩))
        go_ret
        exact ⟨ret_bool (by simp [vehB, vehIn, hoursB, h0, h1, h2]), (Below.refl _ _).alloc (Nat.le_refl _) _⟩
      · cases h3 : inB o3 0 1000000
        · go_enter Tryd.func42, Tryd.ntmps42
          go_wp2_with (first | (go_at_call 40; refine (l1In_any _ _ _ _).mono ?_; rintro e w' ⟨rfl, rfl⟩))
          go_ret
          exact ⟨ret_bool (by simp [vehB, vehIn, hoursB, h0, h1, h2, h3]), (Below.refl _ _).alloc (Nat.le_refl _) _⟩
        · cases h4 : inB o4 o3 1000000
          · go_enter Tryd.func42, Tryd.ntmps42
            go_wp2_with (first | (go_at_call 40; refine (l1In_any _ _ _ _).mono ?_; rintro e w' ⟨rfl, rfl⟩))
            go_ret
            exact ⟨ret_bool (by simp [vehB, vehIn, hoursB, h0, h1, h2, h3, h4]), (Below.refl _ _).alloc (Nat.le_refl _) _⟩
          · go_enter Tryd.func42, Tryd.ntmps42
            go_wp2_with (first | (go_at_call 40; refine (l1In_any _ _ _ _).mono ?_; rintro e w' ⟨rfl, rfl⟩))
            go_ret
            exact ⟨ret_bool (by simp [vehB, vehIn, hoursB, h0, h1, h2, h3, h4]), (Below.refl _ _).alloc (Nat.le_refl _) _⟩

end Go.Proofs.YtaofpbmdloihgaaDoor

namespace Go.Proofs.YtaofpbmdloihgaaDoor
open Go.RowKit

set_option maxHeartbeats 1000000 in
theorem specCase_no (n fine : Int) (a ao av : Option Addr) (cap ko co kv cv : Nat) (zs os vs : List Int) (w : World) (hA : IntsAt w a zs) (hko : ko ≤ 9223372036854775807) (hkv : kv ≤ 9223372036854775807) (h : ¬ (matB n zs = true ∧ ko ≤ 12 ∧ kv ≤ 5 ∧ inB fine 0 1000000 = true)) :
    Calls Tryd.prog 18 #[.agg #[.int .i64 n, .slice a zs.length cap, .slice ao ko co, .slice av kv cv, .int .i64 fine]] w fun e w' => e = .returned (.bool (caseB n zs os vs ko kv fine)) ∧ Below w.heap.size w w' := by
  have HB0 : Hid (Below w.heap.size w (w.alloc (Obj.cells #[Value.int IntKind.i64 n, Value.slice a zs.length cap, Value.slice ao ko co, Value.slice av kv cv, Value.int IntKind.i64 fine] 30))) := (Below.refl _ _).alloc (Nat.le_refl _) _
  have HA : Hid (IntsAt w a zs) := hA
  clear hA
  have HC : Hid (caseB n zs os vs ko kv fine = false) := by
    show _ = _
    unfold caseB
    cases h1 : matB n zs
    · rfl
    · cases h2 : ordsB n os ko
      · rfl
      · cases h3 : vehsB n vs kv
        · rfl
        · cases h4 : inB fine 0 1000000
          · rfl
          · exact absurd ⟨h1, (ordsB_true h2).1, (vehsB_true h3).1, h4⟩ h
  cases h1 : matB n zs
  · have HM : Hid _ := h1
    clear h1 h
    go_enter Tryd.func18, Tryd.ntmps18
    go_wp2_with fail
    refine (specMat_any n a cap zs _ (HA.out.below HB0.out)).mono ?_
    rintro e w1 ⟨rfl, hb⟩
    rw [HM.out]
    obtain ⟨b1, r1⟩ := box5 hb
    obtain ⟨c0, c1, c2, c3, c4⟩ := cells5 r1
    have B1 : Hid _ := b1
    have R1 : Hid _ := r1
    clear hb b1 r1
    go_wp2_with (first | (go_at_call 40; refine (l1In_any _ _ _ _).mono ?_; rintro e w' ⟨rfl, rfl⟩))
    go_ret
    exact ⟨ret_bool HC.out.symm, B1.out⟩
  · have HM : Hid _ := h1
    by_cases h2 : ko ≤ 12
    · by_cases h3 : kv ≤ 5
      · have h4 : inB fine 0 1000000 = false := by
          cases h4 : inB fine 0 1000000
          · rfl
          · exact absurd ⟨h1, h2, h3, h4⟩ h
        clear h1 h
        go_enter Tryd.func18, Tryd.ntmps18
        go_wp2_with fail
        refine (specMat_any n a cap zs _ (HA.out.below HB0.out)).mono ?_
        rintro e w1 ⟨rfl, hb⟩
        rw [HM.out]
        obtain ⟨b1, r1⟩ := box5 hb
        obtain ⟨c0, c1, c2, c3, c4⟩ := cells5 r1
        have B1 : Hid _ := b1
        have R1 : Hid _ := r1
        clear hb b1 r1
        go_wp2_with (first | (go_at_call 40; refine (l1In_any _ _ _ _).mono ?_; rintro e w' ⟨rfl, rfl⟩))
        go_ret
        exact ⟨ret_bool HC.out.symm, B1.out⟩
      · clear h1 h
        go_enter Tryd.func18, Tryd.ntmps18
        go_wp2_with fail
        refine (specMat_any n a cap zs _ (HA.out.below HB0.out)).mono ?_
        rintro e w1 ⟨rfl, hb⟩
        rw [HM.out]
        obtain ⟨b1, r1⟩ := box5 hb
        obtain ⟨c0, c1, c2, c3, c4⟩ := cells5 r1
        have B1 : Hid _ := b1
        have R1 : Hid _ := r1
        clear hb b1 r1
        go_wp2_with (first | (go_at_call 40; refine (l1In_any _ _ _ _).mono ?_; rintro e w' ⟨rfl, rfl⟩))
        go_ret
        exact ⟨ret_bool HC.out.symm, B1.out⟩
    · clear h1 h
      go_enter Tryd.func18, Tryd.ntmps18
      go_wp2_with fail
      refine (specMat_any n a cap zs _ (HA.out.below HB0.out)).mono ?_
      rintro e w1 ⟨rfl, hb⟩
      rw [HM.out]
      obtain ⟨b1, r1⟩ := box5 hb
      obtain ⟨c0, c1, c2, c3, c4⟩ := cells5 r1
      have B1 : Hid _ := b1
      have R1 : Hid _ := r1
      clear hb b1 r1
      go_wp2_with (first | (go_at_call 40; refine (l1In_any _ _ _ _).mono ?_; rintro e w' ⟨rfl, rfl⟩))
      go_ret
      exact ⟨ret_bool HC.out.symm, B1.out⟩

theorem caseB_def (n : Int) (zs os vs : List Int) (ko kv : Nat) (fine : Int) : caseB n zs os vs ko kv fine = (matB n zs && ordsB n os ko && vehsB n vs kv && inB fine 0 1000000) := rfl

set_option maxHeartbeats 2000000 in
theorem specCase_loop (n fine : Int) (a ao av : Option Addr) (cap ko co kv cv : Nat) (zs os vs : List Int) (w : World) (hA : IntsAt w a zs) (hO : IntsAt w ao os) (hV : IntsAt w av vs) (hlo : os.length = ko * 6) (hlv : vs.length = kv * 5) (hm : matB n zs = true) (hko : ko ≤ 12) (hkv : kv ≤ 5) (hf : inB fine 0 1000000 = true) :
    Calls Tryd.prog 18 #[.agg #[.int .i64 n, .slice a zs.length cap, .slice ao ko co, .slice av kv cv, .int .i64 fine]] w fun e w' => e = .returned (.bool (caseB n zs os vs ko kv fine)) ∧ Below w.heap.size w w' := by
  have HB0 : Hid (Below w.heap.size w (w.alloc (Obj.cells #[Value.int IntKind.i64 n, Value.slice a zs.length cap, Value.slice ao ko co, Value.slice av kv cv, Value.int IntKind.i64 fine] 30))) := (Below.refl _ _).alloc (Nat.le_refl _) _
  have HA : Hid (IntsAt w a zs) := hA
  have HX6 : Hid (IntsAt w ao os) := hO
  have HX5 : Hid (IntsAt w av vs) := hV
  have HLX6 : Hid (os.length = ko * 6) := hlo
  have HLX5 : Hid (vs.length = kv * 5) := hlv
  have HM : Hid _ := hm
  obtain ⟨hn1, hn2, _, _⟩ := matB_true hm
  have hdk : decide ((12 : Int) < (ko : Int)) = false := by simp; omega
  have hdv : decide ((5 : Int) < (kv : Int)) = false := by simp; omega
  clear hA hO hV hlo hlv hm
  go_enter Tryd.func18, Tryd.ntmps18
  go_wp2_with fail
  refine (specMat_any n a cap zs _ (HA.out.below HB0.out)).mono ?_
  rintro e w1 ⟨rfl, hb⟩
  rw [HM.out]
  obtain ⟨b1, r1⟩ := box5 hb
  obtain ⟨c0, c1, c2, c3, c4⟩ := cells5 r1
  have B1 : Hid _ := b1
  have R1 : Hid _ := r1
  clear hb b1 r1
  go_wp2_with (first | (go_at_call 40; refine (l1In_any _ _ _ _).mono ?_; rintro e w' ⟨rfl, rfl⟩))
  clear c0 c1 c2 c3 c4
  go_loopw [3] (fun t wr => ∃ k : Nat, k ≤ ko ∧ t = .int .i64 k ∧ ordsTo n os k ∧ Below w.heap.size w wr ∧ wr.heap[w.heap.size]? = some (.cells #[Value.int IntKind.i64 n, Value.slice a zs.length cap, Value.slice ao ko co, Value.slice av kv cv, Value.int IntKind.i64 fine] 30 (0, 0))) (fun t _ => ko - (intOf t).toNat)
  case atStart => exact ⟨0, Nat.zero_le _, rfl, ordsTo_zero _ _, B1.out, R1.out⟩
  case round =>
    clear B1 R1
    obtain ⟨k, hk, rfl, ht, hb, g3⟩ := hrel
    have HT : Hid _ := ht
    have G3 : Hid _ := g3
    have HB : Hid _ := hb
    obtain ⟨c0, c1, c2, c3, c4⟩ := cells5 g3
    clear ht
    by_cases hlt : k < ko
    · obtain ⟨b, off, rfl, hcs⟩ := IntsAt.some (IntsAt.below HX6.out hb) (j := k * 6) (by rw [HLX6.out]; omega)
      obtain ⟨r0, r1, r2, r3, r4, r5⟩ := row6_at hcs HLX6.out k hlt
      have HCS : Hid _ := hcs
      clear hcs g3 hb
      obtain ⟨o0, H0⟩ : ∃ t, Hid (og6 os k 0 = t) := ⟨_, rfl⟩
      obtain ⟨o1, H1⟩ : ∃ t, Hid (og6 os k 1 = t) := ⟨_, rfl⟩
      obtain ⟨o2, H2⟩ : ∃ t, Hid (og6 os k 2 = t) := ⟨_, rfl⟩
      obtain ⟨o3, H3⟩ : ∃ t, Hid (og6 os k 3 = t) := ⟨_, rfl⟩
      obtain ⟨o4, H4⟩ : ∃ t, Hid (og6 os k 4 = t) := ⟨_, rfl⟩
      obtain ⟨o5, H5⟩ : ∃ t, Hid (og6 os k 5 = t) := ⟨_, rfl⟩
      rw [H0.out] at r0
      rw [H1.out] at r1
      rw [H2.out] at r2
      rw [H3.out] at r3
      rw [H4.out] at r4
      rw [H5.out] at r5
      have s0 := fun s : Kin wr => s.cell c0
      have s1 := fun s : Kin wr => s.cell c2
      have t0 := fun s : Kin wr => s.cell r0
      have t1 := fun s : Kin wr => s.cell r1
      have t2 := fun s : Kin wr => s.cell r2
      have t3 := fun s : Kin wr => s.cell r3
      have t4 := fun s : Kin wr => s.cell r4
      have t5 := fun s : Kin wr => s.cell r5
      cases h1 : ordB n o0 o1 o2 o3 o4 o5
      · have HN : Hid (ordsB n os ko = false) := ordsB_bad hlt (by rw [H0.out, H1.out, H2.out, H3.out, H4.out, H5.out, h1]; simp)
        go_wp2_with fail
        have hkin := Kin.there wr
        refine wp_region_kin (by kernel_rfl) (by kernel_rfl) ?_
        repeat (go_big_quiet_step ((go_at_call 41; exact Kin.call (l2Order_any n _ _ _ _ _ _ _ hn1 hn2))))
        refine wpQuiet_nil ?_
        rintro _ ⟨s, rfl⟩
        have HS2 := HB.out.trans (s.below.mono HB.out.size)
        have R2 := below_row s.below (row_lt G3.out) G3.out
        generalize s.w = w2 at *
        go_wp2
        go_ret
        exact ⟨ret_bool (by simp [caseB_def, HN.out]), HS2⟩
      · by_cases hk0 : k = 0
        · have HS : Hid (ordsTo n os (k + 1)) := ordsTo_step HT.out (by rw [H0.out, H1.out, H2.out, H3.out, H4.out, H5.out]; exact h1) (fun h => by omega)
          have hkz : (decide (0 < k)) = false := by simp; omega
          have hk1 : k ≤ 0 := by omega
          clear hk0
          go_wp2_with fail
          have hkin := Kin.there wr
          refine wp_region_kin (by kernel_rfl) (by kernel_rfl) ?_
          repeat (go_big_quiet_step ((go_at_call 41; exact Kin.call (l2Order_any n _ _ _ _ _ _ _ hn1 hn2))))
          refine wpQuiet_nil ?_
          rintro _ ⟨s, rfl⟩
          have HS2 := HB.out.trans (s.below.mono HB.out.size)
          have R2 := below_row s.below (row_lt G3.out) G3.out
          generalize s.w = w2 at *
          go_wp2
          refine ⟨⟨k + 1, by omega, by go_num, HS.out, HS2, R2⟩, by simp [intOf]; omega⟩
        · have hk1 : 0 < k := by omega
          obtain ⟨rp, _⟩ := row6_at HCS.out HLX6.out (k - 1) (by omega)
          obtain ⟨p, HP⟩ : ∃ t, Hid (og6 os (k - 1) 0 = t) := ⟨_, rfl⟩
          rw [HP.out] at rp
          have tp := fun s : Kin wr => s.cell rp
          have hkm : k - 1 < ko := by omega
          have hw1 : IntKind.i64.wrap ((k : Int) - 1) = ((k - 1 : Nat) : Int) := by
            rw [IntKind.wrap_i64]; omega
          clear hk0
          by_cases hp : p < o0
          · have HS : Hid (ordsTo n os (k + 1)) := ordsTo_step HT.out (by rw [H0.out, H1.out, H2.out, H3.out, H4.out, H5.out]; exact h1) (fun _ => by rw [HP.out, H0.out]; exact hp)
            go_wp2_with fail
            have hkin := Kin.there wr
            refine wp_region_kin (by kernel_rfl) (by kernel_rfl) ?_
            repeat (go_big_quiet_step ((go_at_call 41; exact Kin.call (l2Order_any n _ _ _ _ _ _ _ hn1 hn2))))
            refine wpQuiet_nil ?_
            rintro _ ⟨s, rfl⟩
            have HS2 := HB.out.trans (s.below.mono HB.out.size)
            have R2 := below_row s.below (row_lt G3.out) G3.out
            generalize s.w = w2 at *
            go_wp2
            refine ⟨⟨k + 1, by omega, by go_num, HS.out, HS2, R2⟩, by simp [intOf]; omega⟩
          · have HN : Hid (ordsB n os ko = false) := ordsB_bad hlt (fun h => hp (by have := h.2 hk1; rw [HP.out, H0.out] at this; exact this))
            go_wp2_with fail
            have hkin := Kin.there wr
            refine wp_region_kin (by kernel_rfl) (by kernel_rfl) ?_
            repeat (go_big_quiet_step ((go_at_call 41; exact Kin.call (l2Order_any n _ _ _ _ _ _ _ hn1 hn2))))
            refine wpQuiet_nil ?_
            rintro _ ⟨s, rfl⟩
            have HS2 := HB.out.trans (s.below.mono HB.out.size)
            have R2 := below_row s.below (row_lt G3.out) G3.out
            generalize s.w = w2 at *
            go_wp2
            go_ret
            exact ⟨ret_bool (by simp [caseB_def, HN.out]), HS2⟩
    · have hkx : k = ko := by omega
      have HN : Hid (ordsB n os ko = true) := ordsB_yes (by omega) (hkx ▸ HT.out)
      clear hkx g3 hb
      go_wp2_with fail
      clear c0 c1 c2 c3 c4
      have HO2 : Hid (ordsB n os ko = true) := HN.out
      go_loopw [4] (fun t wr => ∃ k : Nat, k ≤ kv ∧ t = .int .i64 k ∧ vehsTo n vs k ∧ Below w.heap.size w wr ∧ wr.heap[w.heap.size]? = some (.cells #[Value.int IntKind.i64 n, Value.slice a zs.length cap, Value.slice ao ko co, Value.slice av kv cv, Value.int IntKind.i64 fine] 30 (0, 0))) (fun t _ => kv - (intOf t).toNat)
      case atStart => exact ⟨0, Nat.zero_le _, rfl, vehsTo_zero _ _, HB.out, G3.out⟩
      case round =>
        clear HT G3 HB HN
        obtain ⟨k, hk, rfl, ht, hb, g3⟩ := hrel
        have HT : Hid _ := ht
        have G3 : Hid _ := g3
        have HB : Hid _ := hb
        obtain ⟨c0, c1, c2, c3, c4⟩ := cells5 g3
        clear ht
        by_cases hlt : k < kv
        · obtain ⟨b, off, rfl, hcs⟩ := IntsAt.some (IntsAt.below HX5.out hb) (j := k * 5) (by rw [HLX5.out]; omega)
          obtain ⟨r0, r1, r2, r3, r4⟩ := row5_at hcs HLX5.out k hlt
          have HCS : Hid _ := hcs
          clear hcs g3 hb
          obtain ⟨o0, H0⟩ : ∃ t, Hid (og5 vs k 0 = t) := ⟨_, rfl⟩
          obtain ⟨o1, H1⟩ : ∃ t, Hid (og5 vs k 1 = t) := ⟨_, rfl⟩
          obtain ⟨o2, H2⟩ : ∃ t, Hid (og5 vs k 2 = t) := ⟨_, rfl⟩
          obtain ⟨o3, H3⟩ : ∃ t, Hid (og5 vs k 3 = t) := ⟨_, rfl⟩
          obtain ⟨o4, H4⟩ : ∃ t, Hid (og5 vs k 4 = t) := ⟨_, rfl⟩
          rw [H0.out] at r0
          rw [H1.out] at r1
          rw [H2.out] at r2
          rw [H3.out] at r3
          rw [H4.out] at r4
          have s0 := fun s : Kin wr => s.cell c0
          have s1 := fun s : Kin wr => s.cell c3
          have t0 := fun s : Kin wr => s.cell r0
          have t1 := fun s : Kin wr => s.cell r1
          have t2 := fun s : Kin wr => s.cell r2
          have t3 := fun s : Kin wr => s.cell r3
          have t4 := fun s : Kin wr => s.cell r4
          cases h1 : vehB n o0 o1 o2 o3 o4
          · have HN : Hid (vehsB n vs kv = false) := vehsB_bad hlt (by rw [H0.out, H1.out, H2.out, H3.out, H4.out, h1]; simp)
            go_wp2_with fail
            have hkin := Kin.there wr
            refine wp_region_kin (by kernel_rfl) (by kernel_rfl) ?_
            repeat (go_big_quiet_step ((go_at_call 42; exact Kin.call (l2Vehicle_any n _ _ _ _ _ _ hn1 hn2))))
            refine wpQuiet_nil ?_
            rintro _ ⟨s, rfl⟩
            have HS2 := HB.out.trans (s.below.mono HB.out.size)
            have R2 := below_row s.below (row_lt G3.out) G3.out
            generalize s.w = w2 at *
            go_wp2
            go_ret
            exact ⟨ret_bool (by simp [caseB_def, HN.out]), HS2⟩
          · by_cases hk0 : k = 0
            · have HS : Hid (vehsTo n vs (k + 1)) := vehsTo_step HT.out (by rw [H0.out, H1.out, H2.out, H3.out, H4.out]; exact h1) (fun h => by omega)
              have hkz : (decide (0 < k)) = false := by simp; omega
              have hk1 : k ≤ 0 := by omega
              clear hk0
              go_wp2_with fail
              have hkin := Kin.there wr
              refine wp_region_kin (by kernel_rfl) (by kernel_rfl) ?_
              repeat (go_big_quiet_step ((go_at_call 42; exact Kin.call (l2Vehicle_any n _ _ _ _ _ _ hn1 hn2))))
              refine wpQuiet_nil ?_
              rintro _ ⟨s, rfl⟩
              have HS2 := HB.out.trans (s.below.mono HB.out.size)
              have R2 := below_row s.below (row_lt G3.out) G3.out
              generalize s.w = w2 at *
              go_wp2
              refine ⟨⟨k + 1, by omega, by go_num, HS.out, HS2, R2⟩, by simp [intOf]; omega⟩
            · have hk1 : 0 < k := by omega
              obtain ⟨rp, _⟩ := row5_at HCS.out HLX5.out (k - 1) (by omega)
              obtain ⟨p, HP⟩ : ∃ t, Hid (og5 vs (k - 1) 0 = t) := ⟨_, rfl⟩
              rw [HP.out] at rp
              have tp := fun s : Kin wr => s.cell rp
              have hkm : k - 1 < kv := by omega
              have hw1 : IntKind.i64.wrap ((k : Int) - 1) = ((k - 1 : Nat) : Int) := by
                rw [IntKind.wrap_i64]; omega
              clear hk0
              by_cases hp : p < o0
              · have HS : Hid (vehsTo n vs (k + 1)) := vehsTo_step HT.out (by rw [H0.out, H1.out, H2.out, H3.out, H4.out]; exact h1) (fun _ => by rw [HP.out, H0.out]; exact hp)
                go_wp2_with fail
                have hkin := Kin.there wr
                refine wp_region_kin (by kernel_rfl) (by kernel_rfl) ?_
                repeat (go_big_quiet_step ((go_at_call 42; exact Kin.call (l2Vehicle_any n _ _ _ _ _ _ hn1 hn2))))
                refine wpQuiet_nil ?_
                rintro _ ⟨s, rfl⟩
                have HS2 := HB.out.trans (s.below.mono HB.out.size)
                have R2 := below_row s.below (row_lt G3.out) G3.out
                generalize s.w = w2 at *
                go_wp2
                refine ⟨⟨k + 1, by omega, by go_num, HS.out, HS2, R2⟩, by simp [intOf]; omega⟩
              · have HN : Hid (vehsB n vs kv = false) := vehsB_bad hlt (fun h => hp (by have := h.2 hk1; rw [HP.out, H0.out] at this; exact this))
                go_wp2_with fail
                have hkin := Kin.there wr
                refine wp_region_kin (by kernel_rfl) (by kernel_rfl) ?_
                repeat (go_big_quiet_step ((go_at_call 42; exact Kin.call (l2Vehicle_any n _ _ _ _ _ _ hn1 hn2))))
                refine wpQuiet_nil ?_
                rintro _ ⟨s, rfl⟩
                have HS2 := HB.out.trans (s.below.mono HB.out.size)
                have R2 := below_row s.below (row_lt G3.out) G3.out
                generalize s.w = w2 at *
                go_wp2
                go_ret
                exact ⟨ret_bool (by simp [caseB_def, HN.out]), HS2⟩
        · have hkx : k = kv := by omega
          have HN : Hid (vehsB n vs kv = true) := vehsB_yes (by omega) (hkx ▸ HT.out)
          clear hkx g3 hb
          go_wp2
          go_ret
          exact ⟨ret_bool (by rw [caseB_def, HM.out, HO2.out, HN.out, hf]; rfl), HB.out⟩

theorem specCase_any (n fine : Int) (a ao av : Option Addr) (cap ko co kv cv : Nat) (zs os vs : List Int) (w : World) (hA : IntsAt w a zs) (hO : IntsAt w ao os) (hV : IntsAt w av vs) (hlo : os.length = ko * 6) (hlv : vs.length = kv * 5) (hko : ko ≤ 9223372036854775807) (hkv : kv ≤ 9223372036854775807) :
    Calls Tryd.prog 18 #[.agg #[.int .i64 n, .slice a zs.length cap, .slice ao ko co, .slice av kv cv, .int .i64 fine]] w fun e w' => e = .returned (.bool (caseB n zs os vs ko kv fine)) ∧ Below w.heap.size w w' := by
  by_cases h : matB n zs = true ∧ ko ≤ 12 ∧ kv ≤ 5 ∧ inB fine 0 1000000 = true
  · exact specCase_loop n fine a ao av cap ko co kv cv zs os vs w hA hO hV hlo hlv h.1 h.2.1 h.2.2.1 h.2.2.2
  · exact specCase_no n fine a ao av cap ko co kv cv zs os vs w hA hko hkv h

end Go.Proofs.YtaofpbmdloihgaaDoor

namespace Go.Proofs.YtaofpbmdloihgaaDoor
open Go.RowKit

set_option maxHeartbeats 400000 in
theorem big_any (a : Option Addr) (c len : Nat) (w : World) (hl : len ≤ 9223372036854775807) :
    Calls Tryd.prog 4 #[.slice a len c] w fun e w' => e = .returned (.bool (decide (1048576 < len))) ∧ w' = w := by
  by_cases h : 1048576 < len
  · rw [decide_eq_true h]
    go_enter Tryd.func4, Tryd.ntmps4
    go_wp2
    go_ret
    exact ⟨by first | rfl | (simp; omega), rfl⟩
  · rw [decide_eq_false h]
    go_enter Tryd.func4, Tryd.ntmps4
    go_wp2
    go_ret
    exact ⟨by first | rfl | (simp; omega), rfl⟩

end Go.Proofs.YtaofpbmdloihgaaDoor
