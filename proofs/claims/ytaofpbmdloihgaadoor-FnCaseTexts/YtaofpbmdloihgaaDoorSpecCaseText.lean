import Derived.Test.YtaofpbmdloihgaaDoorPack2
import Derived.Test.YtaofpbmdloihgaaDoorPack22
namespace Go.Proofs.YtaofpbmdloihgaaDoor
open Go.RowKit

set_option maxRecDepth 10000 in
set_option maxHeartbeats 4000000 in
theorem specCaseText_cap (n fine : Int) (a ao av : Option Addr) (cap ko co kv cv : Nat) (zs os vs : List Int) (w : World) (hA : IntsAt w a zs) (hO : IntsAt w ao os) (hV : IntsAt w av vs) (hlo : os.length = ko * 6) (hlv : vs.length = kv * 5) (hko : ko ≤ 9223372036854775807) (hkv : kv ≤ 9223372036854775807) (hcap : zs.length ≤ cap) :
    Calls Tryd.prog 8 #[.agg #[.int .i64 n, .slice a zs.length cap, .slice ao ko co, .slice av kv cv, .int .i64 fine]] w fun e w' => e = .returned (.string (if caseB n zs os vs ko kv fine = true then txt (caseL n fine zs os vs ko kv) else txt [])) ∧ Below w.heap.size w w' := by
  have HA : Hid (IntsAt w a zs) := hA
  have HO : Hid (IntsAt w ao os) := hO
  have HV : Hid (IntsAt w av vs) := hV
  have HLO : Hid _ := hlo
  have HLV : Hid _ := hlv
  have HCAP : Hid (zs.length ≤ cap) := hcap
  clear hA hO hV hlo hlv hcap
  have C0 : Hid (CB w (w.alloc (.cells #[.int .i64 n, .slice a zs.length cap, .slice ao ko co, .slice av kv cv, .int .i64 fine] 30)) _) := CB.new w _
  obtain ⟨x, HX⟩ : ∃ x, Hid ((if caseB n zs os vs ko kv fine = true then txt (caseL n fine zs os vs ko kv) else txt []) = x) := ⟨_, rfl⟩
  rw [HX.out]
  obtain ⟨c0, c1, c2, c3, c4⟩ := cells5 C0.out.2
  go_enter Tryd.func8, Tryd.ntmps8
  go_wp2_with fail
  clear c0 c1 c2 c3 c4
  generalize (w.alloc (.cells #[.int .i64 n, .slice a zs.length cap, .slice ao ko co, .slice av kv cv, .int .i64 fine] 30)) = W0 at *
  refine (specCase_any n fine a ao av cap ko co kv cv zs os vs W0 (HA.out.below C0.out.1) (HO.out.below C0.out.1) (HV.out.below C0.out.1) HLO.out HLV.out hko hkv).mono ?_
  rintro e w1 ⟨rfl, hb⟩
  have C1 : Hid (CB w w1 #[.int .i64 n, .slice a zs.length cap, .slice ao ko co, .slice av kv cv, .int .i64 fine]) := C0.out.below hb
  clear hb C0
  by_cases hc2 : caseB n zs os vs ko kv fine = false
  · have HE : Hid (x = txt []) := by show _ = _; rw [← HX.out, if_neg (by rw [hc2]; simp)]
    rw [hc2]
    clear hc2
    go_wp2
    go_ret
    exact ⟨by rw [HE.out]; rfl, C1.out.1⟩
  have hcc : caseB n zs os vs ko kv fine = true := by simpa using hc2
  have HE : Hid (x = txt (headL n fine ++ timesL zs n.toNat n.toNat ++ ordersL os ko ++ vehiclesL vs kv)) := by show _ = _; rw [← HX.out, if_pos hcc]; rfl
  rw [hcc]
  obtain ⟨hmat, hords, hvehs, hn1, hf0, hf1⟩ := caseB_parts hcc
  obtain ⟨-, hn2, hzl, -⟩ := matB_true hmat
  have HMAT : Hid (matB n zs = true) := hmat
  have HOB : Hid (ordsB n os ko = true) := hords
  have HVB : Hid (vehsB n vs kv = true) := hvehs
  have hk12 := (ordsB_true hords).1
  have hk5 := (vehsB_true hvehs).1
  obtain ⟨N, rfl⟩ : ∃ N : Nat, n = (N : Int) := ⟨n.toNat, by omega⟩
  have HNN : Hid ((N : Int).toNat = N) := by show _ = _; omega
  have HZL : Hid (zs.length = N * N) := by
    have e : ((N * N : Nat) : Int) = (N : Int) * N := Int.natCast_mul _ _
    show _ = _
    omega
  have HT : Hid (∀ k, k ≤ N → (timesL zs N k).length ≤ 400 * k) := HNN.out ▸ timesL_len hmat
  have HTO : Hid (∀ k, k ≤ ko → (ordersL os k).length ≤ 400 * k) := ordersL_len hords hn2
  have HTV : Hid (∀ k, k ≤ kv → (vehiclesL vs k).length ≤ 400 * k) := vehiclesL_len hvehs hn2
  have HHS : Hid (Small [(N : Int), fine]) := fun v hv => by simp at hv; rcases hv with rfl | rfl <;> omega
  have HHL : Hid ((headL (N : Int) fine).length ≤ 100) := by
    have := lineL_len wCase _ HHS.out
    have e : wCase.length = 4 := rfl
    simp at this
    show (lineL wCase [(N : Int), fine]).length ≤ 100
    omega
  have HRS : Hid (∀ k, Small (rowL zs N k)) := HNN.out ▸ row_small hmat
  rw [HNN.out] at HE
  clear hc2 hcc hmat hords hvehs hzl
  obtain ⟨c0, c1, c2, c3, c4⟩ := cells5 C1.out.2
  have BZ : Hid (Below w1.heap.size w1 (w1.alloc (.cells #[.int .i64 (N : Int), .int .i64 fine] 2))) := (Below.refl _ _).alloc (Nat.le_refl _) _
  have IZ : Hid (IntsAt (w1.alloc (.cells #[.int .i64 (N : Int), .int .i64 fine] 2)) (some ⟨w1.heap.size, 0, none⟩) [(N : Int), fine]) := IntsAt.of_row (heap_alloc_new w1 (.cells #[.int .i64 (N : Int), .int .i64 fine] 2))
  go_wp2_with fail
  clear c0 c1 c2 c3 c4
  have C2 : Hid (CB w (w1.alloc (.cells #[.int .i64 (N : Int), .int .i64 fine] 2)) #[.int .i64 (N : Int), .slice a zs.length cap, .slice ao ko co, .slice av kv cv, .int .i64 fine]) := C1.out.below BZ.out
  generalize (w1.alloc (.cells #[.int .i64 (N : Int), .int .i64 fine] 2)) = W2 at *
  refine (l2Line_any wCase (some ⟨w1.heap.size, 0, none⟩) 2 [(N : Int), fine] W2 IZ.out HHS.out (by simp) (by simp [wCase])).mono ?_
  rintro e w3 ⟨rfl, hb⟩
  have C3 : Hid (CB w w3 #[.int .i64 (N : Int), .slice a zs.length cap, .slice ao ko co, .slice av kv cv, .int .i64 fine]) := C2.out.below hb
  clear hb C2 C1 BZ IZ
  rw [show lineL wCase [(N : Int), fine] = headL (N : Int) fine from rfl]
  go_wp2_with fail
  go_loopw [3, 4] (fun ts ti wr => ∃ k : Nat, k ≤ N ∧ ti = .int .i64 k ∧ ts = .string (txt (headL (N : Int) fine ++ timesL zs N k)) ∧ CB w wr #[.int .i64 (N : Int), .slice a zs.length cap, .slice ao ko co, .slice av kv cv, .int .i64 fine]) (fun _ ti _ => N - (intOf ti).toNat)
  case atStart => exact ⟨0, Nat.zero_le _, rfl, by simp [timesL], C3.out⟩
  case round =>
    clear C3
    obtain ⟨k, hk, rfl, rfl, hcb⟩ := hrel
    have CW : Hid (CB w wr #[.int .i64 (N : Int), .slice a zs.length cap, .slice ao ko co, .slice av kv cv, .int .i64 fine]) := hcb
    clear hcb
    obtain ⟨c0, c1, c2, c3, c4⟩ := cells5 CW.out.2
    have hts : (txt (headL (N : Int) fine ++ timesL zs N k)).size ≤ 20000 := by
      have h1 := HT.out k hk
      have h2 := HHL.out
      rw [txt_size, List.length_append]
      omega
    by_cases hlt : k < N
    · skip
      have hlt' : (k : Int) < N := by omega
      obtain ⟨lo, HLOO⟩ : ∃ lo : Nat, Hid (k * N = lo) := ⟨_, rfl⟩
      have HHI : Hid ((k + 1) * N = lo + N) := by show _ = _; rw [Nat.add_mul, HLOO.out, Nat.one_mul]
      have hle : lo + N ≤ zs.length := by
        rw [HZL.out, ← HHI.out]
        exact Nat.mul_le_mul_right N hlt
      have HN256 : Hid (N * N ≤ 256) := Nat.mul_le_mul (show N ≤ 16 by omega) (show N ≤ 16 by omega)
      have hlo2 : lo + N ≤ 256 := by have := HN256.out; have := HZL.out; omega
      have HW1 : Hid (wrap64 ((k : Int) * (N : Int)) = (lo : Int)) := wrap_mul k N lo HLOO.out (by omega)
      have HW2 : Hid (wrap64 (((k + 1 : Nat) : Int) * (N : Int)) = ((lo + N : Nat) : Int)) := wrap_mul (k + 1) N (lo + N) HHI.out (by omega)
      have HW3 : Hid (wrap64 ((k : Int) + 1) = ((k + 1 : Nat) : Int)) := by show _ = _; rw [IntWalk.wrap64_in _ (by omega)]; omega
      have hcp2 : lo + N ≤ cap := Nat.le_trans hle HCAP.out
      have hlc : lo < cap := by omega
      have hlc2 : ¬ (cap = lo) := by omega
      have hlc3 : ¬ (lo = cap) := by omega
      obtain ⟨b, off, rfl, hcs⟩ := IntsAt.some (HA.out.below CW.out.1) (j := 0) (by omega)
      clear hcs
      have HRL : Hid ((rowL zs N k).length = N) := row_len HZL.out hlt
      have HLL := lineL_len wTimes _ (HRS.out k)
      rw [HRL.out] at HLL
      have hll : (txt (lineL wTimes (rowL zs N k))).size ≤ 1000 := by
        have e : wTimes.length = 5 := rfl
        rw [txt_size]
        omega
      clear HLL
      have HSTEP : Hid (txt (headL (N : Int) fine ++ timesL zs N (k + 1)) = txt (headL (N : Int) fine ++ timesL zs N k) ++ txt (lineL wTimes (rowL zs N k))) := by
        show _ = _
        rw [txt_app, List.append_assoc]
        rfl
      have HCL := l2Line_any wTimes (some ⟨b, off + lo, none⟩) (cap - lo) (rowL zs N k) wr (ints_rowL (HA.out.below CW.out.1) HLOO.out hle) (HRS.out k) (by rw [HRL.out]; omega) (by simp [wTimes])
      rw [HRL.out] at HCL
      generalize txt (headL (N : Int) fine ++ timesL zs N k) = t0 at *
      generalize txt (lineL wTimes (rowL zs N k)) = t1 at *
      obtain ⟨i1, HI1⟩ : ∃ i1 : Int, Hid (((k + 1 : Nat) : Int) = i1) := ⟨_, rfl⟩
      obtain ⟨i, HI⟩ : ∃ i : Int, Hid ((k : Int) = i) := ⟨_, rfl⟩
      obtain ⟨M, HM⟩ : ∃ M : Int, Hid ((N : Int) = M) := ⟨_, rfl⟩
      obtain ⟨hi, HHII⟩ : ∃ hi : Nat, Hid (lo + N = hi) := ⟨_, rfl⟩
      rw [HI1.out, HM.out, HHII.out] at HW2
      rw [HI1.out, HI.out] at HW3
      rw [HI.out, HM.out] at HW1
      rw [HI.out, HM.out] at hlt'
      rw [HM.out] at c0
      rw [HHII.out] at hcp2
      have hlh : lo ≤ hi := by have := HHII.out; omega
      rw [HI.out]
      have hwl := HW1.out
      have hwh := HW2.out
      have hw1 := HW3.out
      go_wp2_with fail
      have hhl : hi - lo = N := by have := HHII.out; omega
      rw [hhl]
      clear hhl hwl hwh hw1 HW1 HW2 HW3
      clear c0 c1 c2 c3 c4
      refine HCL.mono ?_
      rintro e w2 ⟨rfl, hb⟩
      have C2 : Hid (CB w w2 #[.int .i64 (N : Int), .slice (some ⟨b, off, none⟩) zs.length cap, .slice ao ko co, .slice av kv cv, .int .i64 fine]) := CW.out.below hb
      clear hb CW HCL
      go_wp2_with fail
      go_roundw
      case rel => exact ⟨k + 1, by omega, by first | (rw [← HI.out, IntWalk.wrap64_in _ (by omega)]; go_num) | (rw [← HI.out]; go_num), by rw [HSTEP.out], C2.out⟩
      case measure => first | (rw [← HI.out, IntWalk.wrap64_in _ (by omega)]; simp [intOf]; omega) | (rw [← HI.out]; simp [intOf]; omega)
    · skip
      have hnlt : ¬ ((k : Int) < (N : Int)) := by omega
      have HK1 : Hid (k = N) := by show _ = _; omega
      obtain ⟨p, HP⟩ : ∃ p, Hid (headL (N : Int) fine ++ timesL zs N k = p) := ⟨_, rfl⟩
      have HPL : Hid (p.length ≤ 7000) := by
        have h1 := HT.out k hk
        have h2 := HHL.out
        show _ ≤ _
        rw [← HP.out, List.length_append]
        omega
      rw [HP.out] at hts ⊢
      go_wp2_with fail
      clear c0 c1 c2 c3 c4 hts
      go_loopw [3, 5] (fun ts ti wr => ∃ k : Nat, k ≤ ko ∧ ti = .int .i64 k ∧ ts = .string (txt (p ++ ordersL os k)) ∧ CB w wr #[.int .i64 (N : Int), .slice a zs.length cap, .slice ao ko co, .slice av kv cv, .int .i64 fine]) (fun _ ti _ => ko - (intOf ti).toNat)
      case atStart => exact ⟨0, Nat.zero_le _, rfl, by simp [ordersL], CW.out⟩
      case round =>
        clear CW
        obtain ⟨k, hk, rfl, rfl, hcb⟩ := hrel
        have CW : Hid (CB w wr #[.int .i64 (N : Int), .slice a zs.length cap, .slice ao ko co, .slice av kv cv, .int .i64 fine]) := hcb
        clear hcb
        obtain ⟨c0, c1, c2, c3, c4⟩ := cells5 CW.out.2
        have hts : (txt (p ++ ordersL os k)).size ≤ 20000 := by
          have h1 := HTO.out k hk
          have h2 := HPL.out
          rw [txt_size, List.length_append]
          omega
        by_cases hlt : k < ko
        · skip
          have hlt' : (k : Int) < ko := by omega
          obtain ⟨b, off, rfl, hcs⟩ := IntsAt.some (HO.out.below CW.out.1) (j := k * 6) (by rw [HLO.out]; omega)
          obtain ⟨r0, r1, r2, r3, r4, r5⟩ := row6_at hcs HLO.out k hlt
          clear hcs
          have HSM : Hid (Small (ordF os k)) := ord_small HOB.out hn2 hlt
          have hll : (txt (lineL wOrder (ordF os k))).size ≤ 1000 := by
            have HLL := lineL_len wOrder _ HSM.out
            have e : wOrder.length = 5 := rfl
            have e2 : (ordF os k).length = 6 := rfl
            rw [txt_size]
            omega
          obtain ⟨o0, H0⟩ : ∃ t, Hid (og6 os k 0 = t) := ⟨_, rfl⟩
          obtain ⟨o1, H1⟩ : ∃ t, Hid (og6 os k 1 = t) := ⟨_, rfl⟩
          obtain ⟨o2, H2⟩ : ∃ t, Hid (og6 os k 2 = t) := ⟨_, rfl⟩
          obtain ⟨o3, H3⟩ : ∃ t, Hid (og6 os k 3 = t) := ⟨_, rfl⟩
          obtain ⟨o4, H4⟩ : ∃ t, Hid (og6 os k 4 = t) := ⟨_, rfl⟩
          obtain ⟨o5, H5⟩ : ∃ t, Hid (og6 os k 5 = t) := ⟨_, rfl⟩
          have HF : Hid (ordF os k = [o0, o1, o2, o3, o4, o5]) := by show _ = _; unfold ordF; rw [H0.out, H1.out, H2.out, H3.out, H4.out, H5.out]
          rw [H0.out] at r0
          rw [H1.out] at r1
          rw [H2.out] at r2
          rw [H3.out] at r3
          rw [H4.out] at r4
          rw [H5.out] at r5
          rw [HF.out] at HSM hll
          have BZ : Hid (Below wr.heap.size wr ((wr.alloc (.cells #[.int .i64 o0, .int .i64 o1, .int .i64 o2, .int .i64 o3, .int .i64 o4, .int .i64 o5] 45)).alloc (.cells #[.int .i64 o0, .int .i64 o1, .int .i64 o2, .int .i64 o3, .int .i64 o4, .int .i64 o5] 2))) := ((Below.refl _ _).alloc (Nat.le_refl _) _).alloc (by simp) _
          have RZ : Hid (((wr.alloc (.cells #[.int .i64 o0, .int .i64 o1, .int .i64 o2, .int .i64 o3, .int .i64 o4, .int .i64 o5] 45)).alloc (.cells #[.int .i64 o0, .int .i64 o1, .int .i64 o2, .int .i64 o3, .int .i64 o4, .int .i64 o5] 2)).heap[wr.heap.size + 1]? = some (.cells #[.int .i64 o0, .int .i64 o1, .int .i64 o2, .int .i64 o3, .int .i64 o4, .int .i64 o5] 2 (0, 0))) := heap_alloc2_new _ _ _
          have HSTEP : Hid (txt (p ++ ordersL os (k + 1)) = txt (p ++ ordersL os k) ++ txt (lineL wOrder [o0, o1, o2, o3, o4, o5])) := by
            show _ = _
            rw [txt_app, List.append_assoc, ← HF.out]
            rfl
          have HCL := l2Line_any wOrder (some ⟨wr.heap.size + 1, 0, none⟩) 6 [o0, o1, o2, o3, o4, o5] ((wr.alloc (.cells #[.int .i64 o0, .int .i64 o1, .int .i64 o2, .int .i64 o3, .int .i64 o4, .int .i64 o5] 45)).alloc (.cells #[.int .i64 o0, .int .i64 o1, .int .i64 o2, .int .i64 o3, .int .i64 o4, .int .i64 o5] 2)) (IntsAt.of_row RZ.out) HSM.out (by simp) (by simp [wOrder])
          generalize txt (p ++ ordersL os k) = t0 at *
          generalize txt (lineL wOrder [o0, o1, o2, o3, o4, o5]) = t1 at *
          go_wp2_with fail
          clear c0 c1 c2 c3 c4 r0 r1 r2 r3 r4 r5
          refine HCL.mono ?_
          rintro e w2 ⟨rfl, hb⟩
          have C2 : Hid (CB w w2 #[.int .i64 (N : Int), .slice a zs.length cap, .slice (some ⟨b, off, none⟩) ko co, .slice av kv cv, .int .i64 fine]) := CW.out.below (BZ.out.trans (hb.mono BZ.out.size))
          clear hb CW HCL BZ RZ
          go_wp2_with fail
          go_roundw
          case rel => exact ⟨k + 1, by omega, by go_num, by rw [HSTEP.out], C2.out⟩
          case measure => simp [intOf]; omega
        · skip
          have hnlt : ¬ ((k : Int) < (ko : Int)) := by omega
          have HK2 : Hid (k = ko) := by show _ = _; omega
          obtain ⟨q, HQ⟩ : ∃ q, Hid (p ++ ordersL os k = q) := ⟨_, rfl⟩
          replace HPL : Hid (q.length ≤ 13000) := by
            have h1 := HTO.out k hk
            have h2 := HPL.out
            show _ ≤ _
            rw [← HQ.out, List.length_append]
            omega
          rw [HQ.out] at hts ⊢
          go_wp2_with fail
          clear c0 c1 c2 c3 c4 hts
          go_loopw [3, 7] (fun ts ti wr => ∃ k : Nat, k ≤ kv ∧ ti = .int .i64 k ∧ ts = .string (txt (q ++ vehiclesL vs k)) ∧ CB w wr #[.int .i64 (N : Int), .slice a zs.length cap, .slice ao ko co, .slice av kv cv, .int .i64 fine]) (fun _ ti _ => kv - (intOf ti).toNat)
          case atStart => exact ⟨0, Nat.zero_le _, rfl, by simp [vehiclesL], CW.out⟩
          case round =>
            clear CW
            obtain ⟨k, hk, rfl, rfl, hcb⟩ := hrel
            have CW : Hid (CB w wr #[.int .i64 (N : Int), .slice a zs.length cap, .slice ao ko co, .slice av kv cv, .int .i64 fine]) := hcb
            clear hcb
            obtain ⟨c0, c1, c2, c3, c4⟩ := cells5 CW.out.2
            have hts : (txt (q ++ vehiclesL vs k)).size ≤ 20000 := by
              have h1 := HTV.out k hk
              have h2 := HPL.out
              rw [txt_size, List.length_append]
              omega
            by_cases hlt : k < kv
            · skip
              have hlt' : (k : Int) < kv := by omega
              obtain ⟨b, off, rfl, hcs⟩ := IntsAt.some (HV.out.below CW.out.1) (j := k * 5) (by rw [HLV.out]; omega)
              obtain ⟨r0, r1, r2, r3, r4⟩ := row5_at hcs HLV.out k hlt
              clear hcs
              have HSM : Hid (Small (vehF vs k)) := veh_small HVB.out hn2 hlt
              have hll : (txt (lineL wVehicle (vehF vs k))).size ≤ 1000 := by
                have HLL := lineL_len wVehicle _ HSM.out
                have e : wVehicle.length = 7 := rfl
                have e2 : (vehF vs k).length = 5 := rfl
                rw [txt_size]
                omega
              obtain ⟨o0, H0⟩ : ∃ t, Hid (og5 vs k 0 = t) := ⟨_, rfl⟩
              obtain ⟨o1, H1⟩ : ∃ t, Hid (og5 vs k 1 = t) := ⟨_, rfl⟩
              obtain ⟨o2, H2⟩ : ∃ t, Hid (og5 vs k 2 = t) := ⟨_, rfl⟩
              obtain ⟨o3, H3⟩ : ∃ t, Hid (og5 vs k 3 = t) := ⟨_, rfl⟩
              obtain ⟨o4, H4⟩ : ∃ t, Hid (og5 vs k 4 = t) := ⟨_, rfl⟩
              have HF : Hid (vehF vs k = [o0, o1, o2, o3, o4]) := by show _ = _; unfold vehF; rw [H0.out, H1.out, H2.out, H3.out, H4.out]
              rw [H0.out] at r0
              rw [H1.out] at r1
              rw [H2.out] at r2
              rw [H3.out] at r3
              rw [H4.out] at r4
              rw [HF.out] at HSM hll
              have BZ : Hid (Below wr.heap.size wr ((wr.alloc (.cells #[.int .i64 o0, .int .i64 o1, .int .i64 o2, .int .i64 o3, .int .i64 o4] 47)).alloc (.cells #[.int .i64 o0, .int .i64 o1, .int .i64 o2, .int .i64 o3, .int .i64 o4] 2))) := ((Below.refl _ _).alloc (Nat.le_refl _) _).alloc (by simp) _
              have RZ : Hid (((wr.alloc (.cells #[.int .i64 o0, .int .i64 o1, .int .i64 o2, .int .i64 o3, .int .i64 o4] 47)).alloc (.cells #[.int .i64 o0, .int .i64 o1, .int .i64 o2, .int .i64 o3, .int .i64 o4] 2)).heap[wr.heap.size + 1]? = some (.cells #[.int .i64 o0, .int .i64 o1, .int .i64 o2, .int .i64 o3, .int .i64 o4] 2 (0, 0))) := heap_alloc2_new _ _ _
              have HSTEP : Hid (txt (q ++ vehiclesL vs (k + 1)) = txt (q ++ vehiclesL vs k) ++ txt (lineL wVehicle [o0, o1, o2, o3, o4])) := by
                show _ = _
                rw [txt_app, List.append_assoc, ← HF.out]
                rfl
              have HCL := l2Line_any wVehicle (some ⟨wr.heap.size + 1, 0, none⟩) 5 [o0, o1, o2, o3, o4] ((wr.alloc (.cells #[.int .i64 o0, .int .i64 o1, .int .i64 o2, .int .i64 o3, .int .i64 o4] 47)).alloc (.cells #[.int .i64 o0, .int .i64 o1, .int .i64 o2, .int .i64 o3, .int .i64 o4] 2)) (IntsAt.of_row RZ.out) HSM.out (by simp) (by simp [wVehicle])
              generalize txt (q ++ vehiclesL vs k) = t0 at *
              generalize txt (lineL wVehicle [o0, o1, o2, o3, o4]) = t1 at *
              go_wp2_with fail
              clear c0 c1 c2 c3 c4 r0 r1 r2 r3 r4
              refine HCL.mono ?_
              rintro e w2 ⟨rfl, hb⟩
              have C2 : Hid (CB w w2 #[.int .i64 (N : Int), .slice a zs.length cap, .slice ao ko co, .slice (some ⟨b, off, none⟩) kv cv, .int .i64 fine]) := CW.out.below (BZ.out.trans (hb.mono BZ.out.size))
              clear hb CW HCL BZ RZ
              go_wp2_with fail
              go_roundw
              case rel => exact ⟨k + 1, by omega, by go_num, by rw [HSTEP.out], C2.out⟩
              case measure => simp [intOf]; omega
            · skip
              have hnlt : ¬ ((k : Int) < (kv : Int)) := by omega
              have HK3 : Hid (k = kv) := by show _ = _; omega
              have HEE : Hid (x = txt (q ++ vehiclesL vs k)) := by
                show _ = _
                rw [HE.out, ← HQ.out, ← HP.out, HK1.out, HK2.out, HK3.out]
              generalize txt (q ++ vehiclesL vs k) = t0 at *
              go_wp2
              go_ret
              exact ⟨by rw [HEE.out]; rfl, CW.out.1⟩

theorem specCaseText_any (n fine : Int) (a ao av : Option Addr) (cap ko co kv cv : Nat) (zs os vs : List Int) (w : World) (hA : IntsAt w a zs) (hO : IntsAt w ao os) (hV : IntsAt w av vs) (hlo : os.length = ko * 6) (hlv : vs.length = kv * 5) (hko : ko ≤ 9223372036854775807) (hkv : kv ≤ 9223372036854775807) (hcap : zs.length ≤ cap) (_hcapM : cap ≤ 9223372036854775807) :
    Calls Tryd.prog 8 #[.agg #[.int .i64 n, .slice a zs.length cap, .slice ao ko co, .slice av kv cv, .int .i64 fine]] w fun e w' => e = .returned (.string (if caseB n zs os vs ko kv fine = true then txt (caseL n fine zs os vs ko kv) else txt [])) ∧ Below w.heap.size w w' := specCaseText_cap n fine a ao av cap ko co kv cv zs os vs w hA hO hV hlo hlv hko hkv hcap

end Go.Proofs.YtaofpbmdloihgaaDoor
