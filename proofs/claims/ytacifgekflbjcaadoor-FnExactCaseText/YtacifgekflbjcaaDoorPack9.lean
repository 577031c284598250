import Derived.Test.YtacifgekflbjcaaDoorPack1
import Derived.Test.YtacifgekflbjcaaDoorPack2
import Derived.Test.YtacifgekflbjcaaDoorWriteLine
import Derived.Test.YtacifgekflbjcaaDoorPack8
namespace Go.Proofs.YtacifgekflbjcaaDoor
open Go.RowKit

theorem Wrt.row {B b k : Nat} {cs : Array Value} {T : TypeId} {fz : Nat × Nat} {w w' : World} (h : Wrt B b w w') (hr : w.heap[k]? = some (.cells cs T fz)) (hk : k ≠ b) (hT : T ≠ 5) : w'.heap[k]? = some (.cells cs T fz) :=
  h.2 k _ hr (fun e => hk (Option.some.inj e)) (fun _ _ e => hT (by injection e))

set_option maxRecDepth 10000 in
set_option maxHeartbeats 4000000 in
theorem implCaseText_any (n fine : Int) (a ao av : Option Addr) (cap ko co kv cv : Nat) (zs os vs : List Int) (w : World) (hA : IntsAt w a zs) (hO : IntsAt w ao os) (hV : IntsAt w av vs) (hlo : os.length = ko * 6) (hlv : vs.length = kv * 5) (hko : ko ≤ 9223372036854775807) (hkv : kv ≤ 9223372036854775807) (hcap : zs.length ≤ cap) (hcapM : cap ≤ 9223372036854775807) (hT : PW w) :
    Calls Tryd.prog 8 #[.agg #[.int .i64 n, .slice a zs.length cap, .slice ao ko co, .slice av kv cv, .int .i64 fine]] w fun e w' => e = .returned (.string (if caseB n zs os vs ko kv fine = true then txt (caseL n fine zs os vs ko kv) else txt [])) ∧ Below w.heap.size w w' := by
  have HPW : Hid (PW w) := hT
  clear hT
  have HA : Hid (IntsAt w a zs) := hA
  have HO : Hid (IntsAt w ao os) := hO
  have HV : Hid (IntsAt w av vs) := hV
  have HLO : Hid _ := hlo
  have HLV : Hid _ := hlv
  have HCAP : Hid (zs.length ≤ cap) := hcap
  clear hA hO hV hlo hlv hcap
  have C0 : Hid (CB w (w.alloc (.cells #[.int .i64 n, .slice a zs.length cap, .slice ao ko co, .slice av kv cv, .int .i64 fine] 35)) _) := CB.new w _
  obtain ⟨x, HX⟩ : ∃ x, Hid ((if caseB n zs os vs ko kv fine = true then txt (caseL n fine zs os vs ko kv) else txt []) = x) := ⟨_, rfl⟩
  rw [HX.out]
  obtain ⟨c0, c1, c2, c3, c4⟩ := cells5 C0.out.2
  go_enter Tryd.func8, Tryd.ntmps8
  go_wp2_with fail
  clear c0 c1 c2 c3 c4
  generalize (w.alloc (.cells #[.int .i64 n, .slice a zs.length cap, .slice ao ko co, .slice av kv cv, .int .i64 fine] 35)) = W0 at *
  refine (implCase_any n fine a ao av cap ko co kv cv zs os vs W0 (HA.out.below C0.out.1) (HO.out.below C0.out.1) (HV.out.below C0.out.1) HLO.out HLV.out hko hkv).mono ?_
  rintro e w1 ⟨rfl, hb⟩
  have C1 : Hid (CB w w1 #[.int .i64 n, .slice a zs.length cap, .slice ao ko co, .slice av kv cv, .int .i64 fine]) := C0.out.below hb
  clear hb C0
  by_cases hc2 : caseB n zs os vs ko kv fine = false
  · have HE : Hid (x = txt []) := by show _ = _; rw [← HX.out, if_neg (by rw [hc2]; simp)]
    rw [hc2]
    clear hc2
    go_wp2
    go_ret
    exact ⟨by rw [HE.out]; rfl, C1.out.1⟩
  have hcc : caseB n zs os vs ko kv fine = true := by simpa using hc2
  have HE : Hid (x = txt (headL n fine ++ timesL zs n.toNat n.toNat ++ ordersL os ko ++ vehiclesL vs kv)) := by show _ = _; rw [← HX.out, if_pos hcc]; rfl
  rw [hcc]
  obtain ⟨hmat, hords, hvehs, hn1, hf0, hf1⟩ := caseB_parts hcc
  obtain ⟨-, hn2, hzl, -⟩ := matB_true hmat
  have HMAT : Hid (matB n zs = true) := hmat
  have HOB : Hid (ordsB n os ko = true) := hords
  have HVB : Hid (vehsB n vs kv = true) := hvehs
  have hk12 := (ordsB_true hords).1
  have hk5 := (vehsB_true hvehs).1
  obtain ⟨N, rfl⟩ : ∃ N : Nat, n = (N : Int) := ⟨n.toNat, by omega⟩
  have HNN : Hid ((N : Int).toNat = N) := by show _ = _; omega
  have HZL : Hid (zs.length = N * N) := by
    have e : ((N * N : Nat) : Int) = (N : Int) * N := Int.natCast_mul _ _
    show _ = _
    omega
  have HT : Hid (∀ k, k ≤ N → (timesL zs N k).length ≤ 400 * k) := HNN.out ▸ timesL_len hmat
  have HTO : Hid (∀ k, k ≤ ko → (ordersL os k).length ≤ 400 * k) := ordersL_len hords hn2
  have HTV : Hid (∀ k, k ≤ kv → (vehiclesL vs k).length ≤ 400 * k) := vehiclesL_len hvehs hn2
  have HHS : Hid (Small [(N : Int), fine]) := fun v hv => by simp at hv; rcases hv with rfl | rfl <;> omega
  have HHL : Hid ((headL (N : Int) fine).length ≤ 100) := by
    have := lineL_len wCase _ HHS.out
    have e : wCase.length = 4 := rfl
    simp at this
    show (lineL wCase [(N : Int), fine]).length ≤ 100
    omega
  have HRS : Hid (∀ k, Small (rowL zs N k)) := HNN.out ▸ row_small hmat
  rw [HNN.out] at HE
  clear hc2 hcc hmat hords hvehs hzl
  obtain ⟨c0, c1, c2, c3, c4⟩ := cells5 (C1.out.below ((Below.refl _ _).alloc (Nat.le_refl _) (.cells #[.pointer none, .slice none 0 0] 65))).2
  have BZ : Hid (Below w1.heap.size w1 ((w1.alloc (.cells #[.pointer none, .slice none 0 0] 65)).alloc (.cells #[.int .i64 (N : Int), .int .i64 fine] 2))) := ((Below.refl _ _).alloc (Nat.le_refl _) _).alloc (by simp) _
  have RZ : Hid (((w1.alloc (.cells #[.pointer none, .slice none 0 0] 65)).alloc (.cells #[.int .i64 (N : Int), .int .i64 fine] 2)).heap[w1.heap.size + 1]? = some (.cells #[.int .i64 (N : Int), .int .i64 fine] 2 (0, 0))) := heap_alloc2_new _ _ _
  have U2 : Hid (BU w1.heap.size w1.heap.size [] ((w1.alloc (.cells #[.pointer none, .slice none 0 0] 65)).alloc (.cells #[.int .i64 (N : Int), .int .i64 fine] 2))) := (BU.new w1.heap.size w1 (Nat.le_refl _)).below ((Below.refl _ _).alloc (Nat.le_refl _) _)
  have HPW1 : Hid (∀ W', Below w1.heap.size w1 W' → PW W') := fun W' h => PW.below HPW.out (C1.out.1.trans (h.mono C1.out.1.size)) (Nat.le_refl _)
  go_wp2_with fail
  clear c0 c1 c2 c3 c4
  generalize ((w1.alloc (.cells #[.pointer none, .slice none 0 0] 65)).alloc (.cells #[.int .i64 (N : Int), .int .i64 fine] 2)) = W2 at *
  refine (writeLine_any w1.heap.size w1.heap.size [] wCase (some ⟨w1.heap.size + 1, 0, none⟩) 2 [(N : Int), fine] W2 U2.out BZ.out.size (fun W' h => IntsAt.of_row (h.row RZ.out (by omega) (by decide))) (fun W' h => HPW1.out W' (BZ.out.trans h)) HHS.out (by simp) (by simp [wCase]) (by simp)).mono ?_
  rintro e w3 ⟨rfl, hu, hb⟩
  have U3 : Hid (BU w1.heap.size w1.heap.size (headL (N : Int) fine) w3) := hu
  have B3 : Hid (Below w1.heap.size w1 w3) := BZ.out.trans hb.1
  clear hu hb BZ RZ U2
  go_wp2_with fail
  go_loopw [22] (fun ti wr => ∃ k : Nat, k ≤ N ∧ ti = .int .i64 k ∧ BU w1.heap.size w1.heap.size (headL (N : Int) fine ++ timesL zs N k) wr ∧ Below w1.heap.size w1 wr) (fun ti _ => N - (intOf ti).toNat)
  case atStart => exact ⟨0, Nat.zero_le _, rfl, by simp only [timesL, List.append_nil]; exact U3.out, B3.out⟩
  case round =>
    clear B3 U3
    obtain ⟨k, hk, rfl, hu, hb⟩ := hrel
    have UW : Hid (BU w1.heap.size w1.heap.size (headL (N : Int) fine ++ timesL zs N k) wr) := hu
    have BW : Hid (Below w1.heap.size w1 wr) := hb
    have CW : Hid (CB w wr #[.int .i64 (N : Int), .slice a zs.length cap, .slice ao ko co, .slice av kv cv, .int .i64 fine]) := C1.out.below hb
    clear hu hb
    obtain ⟨c0, c1, c2, c3, c4⟩ := cells5 CW.out.2
    have HTS : Hid ((headL (N : Int) fine ++ timesL zs N k).length ≤ 7000) := by
      have h1 := HT.out k hk
      have h2 := HHL.out
      show _ ≤ _
      rw [List.length_append]
      omega
    by_cases hlt : k < N
    · skip
      have hlt' : (k : Int) < N := by omega
      obtain ⟨lo, HLOO⟩ : ∃ lo : Nat, Hid (k * N = lo) := ⟨_, rfl⟩
      have HHI : Hid ((k + 1) * N = lo + N) := by show _ = _; rw [Nat.add_mul, HLOO.out, Nat.one_mul]
      have hle : lo + N ≤ zs.length := by
        rw [HZL.out, ← HHI.out]
        exact Nat.mul_le_mul_right N hlt
      have HN256 : Hid (N * N ≤ 256) := Nat.mul_le_mul (show N ≤ 16 by omega) (show N ≤ 16 by omega)
      have hlo2 : lo + N ≤ 256 := by have := HN256.out; have := HZL.out; omega
      have HW1 : Hid (wrap64 ((k : Int) * (N : Int)) = (lo : Int)) := wrap_mul k N lo HLOO.out (by omega)
      have HW2 : Hid (wrap64 (((k + 1 : Nat) : Int) * (N : Int)) = ((lo + N : Nat) : Int)) := wrap_mul (k + 1) N (lo + N) HHI.out (by omega)
      have HW3 : Hid (wrap64 ((k : Int) + 1) = ((k + 1 : Nat) : Int)) := by show _ = _; rw [IntWalk.wrap64_in _ (by omega)]; omega
      have hcp2 : lo + N ≤ cap := Nat.le_trans hle HCAP.out
      have hlc : lo < cap := by omega
      have hlc2 : ¬ (cap = lo) := by omega
      have hlc3 : ¬ (lo = cap) := by omega
      obtain ⟨b, off, rfl, hcs⟩ := IntsAt.some (HA.out.below CW.out.1) (j := 0) (by omega)
      clear hcs
      have HRL : Hid ((rowL zs N k).length = N) := row_len HZL.out hlt
      have HLL := lineL_len wTimes _ (HRS.out k)
      rw [HRL.out] at HLL
      have hll : (txt (lineL wTimes (rowL zs N k))).size ≤ 1000 := by
        have e : wTimes.length = 5 := rfl
        rw [txt_size]
        omega
      clear HLL
      have HSTEP : Hid (headL (N : Int) fine ++ timesL zs N (k + 1) = headL (N : Int) fine ++ timesL zs N k ++ lineL wTimes (rowL zs N k)) := by
        show _ = _
        rw [List.append_assoc]
        rfl
      have HCL := writeLine_any w1.heap.size w1.heap.size (headL (N : Int) fine ++ timesL zs N k) wTimes (some ⟨b, off + lo, none⟩) (cap - lo) (rowL zs N k) wr UW.out BW.out.size (fun W' h => ints_rowL (HA.out.below (CW.out.1.trans (h.1.mono C1.out.1.size))) HLOO.out hle) (fun W' h => HPW1.out W' (BW.out.trans h)) (HRS.out k) (by rw [HRL.out]; omega) (by simp [wTimes]) (by have := HTS.out; omega)
      rw [HRL.out, ← HSTEP.out] at HCL
      clear hll
      obtain ⟨i1, HI1⟩ : ∃ i1 : Int, Hid (((k + 1 : Nat) : Int) = i1) := ⟨_, rfl⟩
      obtain ⟨i, HI⟩ : ∃ i : Int, Hid ((k : Int) = i) := ⟨_, rfl⟩
      obtain ⟨hi, HHII⟩ : ∃ hi : Nat, Hid (lo + N = hi) := ⟨_, rfl⟩
      rw [HI1.out, HHII.out] at HW2
      rw [HI1.out, HI.out] at HW3
      rw [HI.out] at HW1
      rw [HI.out] at hlt'

      rw [HHII.out] at hcp2
      have hlh : lo ≤ hi := by have := HHII.out; omega
      rw [HI.out]
      have hwl := HW1.out
      have hwh := HW2.out
      have hw1 := HW3.out
      go_wp2_with fail
      have hhl : hi - lo = N := by have := HHII.out; omega
      rw [hhl]
      clear hhl hwl hwh hw1 HW1 HW2 HW3
      clear c0 c1 c2 c3 c4
      refine HCL.mono ?_
      rintro e w2 ⟨rfl, hu, hb⟩
      have U2 : Hid (BU w1.heap.size w1.heap.size (headL (N : Int) fine ++ timesL zs N (k + 1)) w2) := hu
      have B2 : Hid (Below w1.heap.size w1 w2) := BW.out.trans hb.1
      clear hu hb CW BW UW HCL
      go_wp2_with fail
      go_roundw
      case rel => exact ⟨k + 1, by omega, by first | (rw [← HI.out, IntWalk.wrap64_in _ (by omega)]; go_num) | (rw [← HI.out]; go_num), U2.out, B2.out⟩
      case measure => first | (rw [← HI.out, IntWalk.wrap64_in _ (by omega)]; simp [intOf]; omega) | (rw [← HI.out]; simp [intOf]; omega)
    · skip
      have hnlt : ¬ ((k : Int) < (N : Int)) := by omega
      have HK1 : Hid (k = N) := by show _ = _; omega
      obtain ⟨p, HP⟩ : ∃ p, Hid (headL (N : Int) fine ++ timesL zs N k = p) := ⟨_, rfl⟩
      rw [HP.out] at UW HTS
      have HPL : Hid (p.length ≤ 7000) := HTS.out
      have HNE : Hid (p ≠ []) := by
        show _ ≠ _
        rw [← HP.out]
        unfold headL lineL
        simp
      go_wp2_with fail
      clear c0 c1 c2 c3 c4 HTS
      go_loopw [41] (fun ti wr => ∃ k : Nat, k ≤ ko ∧ ti = .int .i64 k ∧ BU w1.heap.size w1.heap.size (p ++ ordersL os k) wr ∧ Below w1.heap.size w1 wr) (fun ti _ => ko - (intOf ti).toNat)
      case atStart => exact ⟨0, Nat.zero_le _, rfl, by simp only [ordersL, List.append_nil]; exact UW.out, BW.out⟩
      case round =>
        clear CW BW UW
        obtain ⟨k, hk, rfl, hu, hb⟩ := hrel
        have UW : Hid (BU w1.heap.size w1.heap.size (p ++ ordersL os k) wr) := hu
        have BW : Hid (Below w1.heap.size w1 wr) := hb
        have CW : Hid (CB w wr #[.int .i64 (N : Int), .slice a zs.length cap, .slice ao ko co, .slice av kv cv, .int .i64 fine]) := C1.out.below hb
        clear hu hb
        obtain ⟨c0, c1, c2, c3, c4⟩ := cells5 CW.out.2
        have HTS : Hid ((p ++ ordersL os k).length ≤ 20000) := by
          have h1 := HTO.out k hk
          have h2 := HPL.out
          show _ ≤ _
          rw [List.length_append]
          omega
        by_cases hlt : k < ko
        · skip
          have hlt' : (k : Int) < ko := by omega
          obtain ⟨b, off, rfl, hcs⟩ := IntsAt.some (HO.out.below CW.out.1) (j := k * 6) (by rw [HLO.out]; omega)
          obtain ⟨r0, r1, r2, r3, r4, r5⟩ := row6_at hcs HLO.out k hlt
          clear hcs
          have HSM : Hid (Small (ordF os k)) := ord_small HOB.out hn2 hlt
          have hll : (txt (lineL wOrder (ordF os k))).size ≤ 1000 := by
            have HLL := lineL_len wOrder _ HSM.out
            have e : wOrder.length = 5 := rfl
            have e2 : (ordF os k).length = 6 := rfl
            rw [txt_size]
            omega
          obtain ⟨o0, H0⟩ : ∃ t, Hid (og6 os k 0 = t) := ⟨_, rfl⟩
          obtain ⟨o1, H1⟩ : ∃ t, Hid (og6 os k 1 = t) := ⟨_, rfl⟩
          obtain ⟨o2, H2⟩ : ∃ t, Hid (og6 os k 2 = t) := ⟨_, rfl⟩
          obtain ⟨o3, H3⟩ : ∃ t, Hid (og6 os k 3 = t) := ⟨_, rfl⟩
          obtain ⟨o4, H4⟩ : ∃ t, Hid (og6 os k 4 = t) := ⟨_, rfl⟩
          obtain ⟨o5, H5⟩ : ∃ t, Hid (og6 os k 5 = t) := ⟨_, rfl⟩
          have HF : Hid (ordF os k = [o0, o1, o2, o3, o4, o5]) := by show _ = _; unfold ordF; rw [H0.out, H1.out, H2.out, H3.out, H4.out, H5.out]
          rw [H0.out] at r0
          rw [H1.out] at r1
          rw [H2.out] at r2
          rw [H3.out] at r3
          rw [H4.out] at r4
          rw [H5.out] at r5
          rw [HF.out] at HSM hll
          have BZ : Hid (Below wr.heap.size wr ((wr.alloc (.cells #[.int .i64 o0, .int .i64 o1, .int .i64 o2, .int .i64 o3, .int .i64 o4, .int .i64 o5] 56)).alloc (.cells #[.int .i64 o0, .int .i64 o1, .int .i64 o2, .int .i64 o3, .int .i64 o4, .int .i64 o5] 2))) := ((Below.refl _ _).alloc (Nat.le_refl _) _).alloc (by simp) _
          have RZ : Hid (((wr.alloc (.cells #[.int .i64 o0, .int .i64 o1, .int .i64 o2, .int .i64 o3, .int .i64 o4, .int .i64 o5] 56)).alloc (.cells #[.int .i64 o0, .int .i64 o1, .int .i64 o2, .int .i64 o3, .int .i64 o4, .int .i64 o5] 2)).heap[wr.heap.size + 1]? = some (.cells #[.int .i64 o0, .int .i64 o1, .int .i64 o2, .int .i64 o3, .int .i64 o4, .int .i64 o5] 2 (0, 0))) := heap_alloc2_new _ _ _
          have HSTEP : Hid (p ++ ordersL os (k + 1) = p ++ ordersL os k ++ lineL wOrder [o0, o1, o2, o3, o4, o5]) := by
            show _ = _
            rw [List.append_assoc, ← HF.out]
            rfl
          have HCL := writeLine_any w1.heap.size w1.heap.size (p ++ ordersL os k) wOrder (some ⟨wr.heap.size + 1, 0, none⟩) 6 [o0, o1, o2, o3, o4, o5] ((wr.alloc (.cells #[.int .i64 o0, .int .i64 o1, .int .i64 o2, .int .i64 o3, .int .i64 o4, .int .i64 o5] 56)).alloc (.cells #[.int .i64 o0, .int .i64 o1, .int .i64 o2, .int .i64 o3, .int .i64 o4, .int .i64 o5] 2)) (UW.out.below BZ.out) (Nat.le_trans BW.out.size BZ.out.size) (fun W' h => IntsAt.of_row (h.row RZ.out (by have := BW.out.size; omega) (by decide))) (fun W' h => HPW1.out W' (BW.out.trans ((BZ.out.mono BW.out.size).trans h))) HSM.out (by simp) (by simp [wOrder]) (by have := HTS.out; omega)
          rw [← HSTEP.out] at HCL
          clear hll
          go_wp2_with fail
          clear c0 c1 c2 c3 c4 r0 r1 r2 r3 r4 r5
          refine HCL.mono ?_
          rintro e w2 ⟨rfl, hu, hb⟩
          have U2 : Hid (BU w1.heap.size w1.heap.size (p ++ ordersL os (k + 1)) w2) := hu
          have B2 : Hid (Below w1.heap.size w1 w2) := BW.out.trans ((BZ.out.mono BW.out.size).trans hb.1)
          clear hu hb CW BW UW HCL BZ RZ
          go_wp2_with fail
          go_roundw
          case rel => exact ⟨k + 1, by omega, by go_num, U2.out, B2.out⟩
          case measure => simp [intOf]; omega
        · skip
          have hnlt : ¬ ((k : Int) < (ko : Int)) := by omega
          have HK2 : Hid (k = ko) := by show _ = _; omega
          obtain ⟨q, HQ⟩ : ∃ q, Hid (p ++ ordersL os k = q) := ⟨_, rfl⟩
          replace HPL : Hid (q.length ≤ 13000) := by
            have h1 := HTO.out k hk
            have h2 := HPL.out
            show _ ≤ _
            rw [← HQ.out, List.length_append]
            omega
          replace HNE : Hid (q ≠ []) := by
            show _ ≠ _
            rw [← HQ.out]
            simp [HNE.out]
          rw [HQ.out] at UW
          go_wp2_with fail
          clear c0 c1 c2 c3 c4 HTS
          go_loopw [63] (fun ti wr => ∃ k : Nat, k ≤ kv ∧ ti = .int .i64 k ∧ BU w1.heap.size w1.heap.size (q ++ vehiclesL vs k) wr ∧ Below w1.heap.size w1 wr) (fun ti _ => kv - (intOf ti).toNat)
          case atStart => exact ⟨0, Nat.zero_le _, rfl, by simp only [vehiclesL, List.append_nil]; exact UW.out, BW.out⟩
          case round =>
            clear CW BW UW
            obtain ⟨k, hk, rfl, hu, hb⟩ := hrel
            have UW : Hid (BU w1.heap.size w1.heap.size (q ++ vehiclesL vs k) wr) := hu
            have BW : Hid (Below w1.heap.size w1 wr) := hb
            have CW : Hid (CB w wr #[.int .i64 (N : Int), .slice a zs.length cap, .slice ao ko co, .slice av kv cv, .int .i64 fine]) := C1.out.below hb
            clear hu hb
            obtain ⟨c0, c1, c2, c3, c4⟩ := cells5 CW.out.2
            have HTS : Hid ((q ++ vehiclesL vs k).length ≤ 20000) := by
              have h1 := HTV.out k hk
              have h2 := HPL.out
              show _ ≤ _
              rw [List.length_append]
              omega
            by_cases hlt : k < kv
            · skip
              have hlt' : (k : Int) < kv := by omega
              obtain ⟨b, off, rfl, hcs⟩ := IntsAt.some (HV.out.below CW.out.1) (j := k * 5) (by rw [HLV.out]; omega)
              obtain ⟨r0, r1, r2, r3, r4⟩ := row5_at hcs HLV.out k hlt
              clear hcs
              have HSM : Hid (Small (vehF vs k)) := veh_small HVB.out hn2 hlt
              have hll : (txt (lineL wVehicle (vehF vs k))).size ≤ 1000 := by
                have HLL := lineL_len wVehicle _ HSM.out
                have e : wVehicle.length = 7 := rfl
                have e2 : (vehF vs k).length = 5 := rfl
                rw [txt_size]
                omega
              obtain ⟨o0, H0⟩ : ∃ t, Hid (og5 vs k 0 = t) := ⟨_, rfl⟩
              obtain ⟨o1, H1⟩ : ∃ t, Hid (og5 vs k 1 = t) := ⟨_, rfl⟩
              obtain ⟨o2, H2⟩ : ∃ t, Hid (og5 vs k 2 = t) := ⟨_, rfl⟩
              obtain ⟨o3, H3⟩ : ∃ t, Hid (og5 vs k 3 = t) := ⟨_, rfl⟩
              obtain ⟨o4, H4⟩ : ∃ t, Hid (og5 vs k 4 = t) := ⟨_, rfl⟩
              have HF : Hid (vehF vs k = [o0, o1, o2, o3, o4]) := by show _ = _; unfold vehF; rw [H0.out, H1.out, H2.out, H3.out, H4.out]
              rw [H0.out] at r0
              rw [H1.out] at r1
              rw [H2.out] at r2
              rw [H3.out] at r3
              rw [H4.out] at r4
              rw [HF.out] at HSM hll
              have BZ : Hid (Below wr.heap.size wr ((wr.alloc (.cells #[.int .i64 o0, .int .i64 o1, .int .i64 o2, .int .i64 o3, .int .i64 o4] 58)).alloc (.cells #[.int .i64 o0, .int .i64 o1, .int .i64 o2, .int .i64 o3, .int .i64 o4] 2))) := ((Below.refl _ _).alloc (Nat.le_refl _) _).alloc (by simp) _
              have RZ : Hid (((wr.alloc (.cells #[.int .i64 o0, .int .i64 o1, .int .i64 o2, .int .i64 o3, .int .i64 o4] 58)).alloc (.cells #[.int .i64 o0, .int .i64 o1, .int .i64 o2, .int .i64 o3, .int .i64 o4] 2)).heap[wr.heap.size + 1]? = some (.cells #[.int .i64 o0, .int .i64 o1, .int .i64 o2, .int .i64 o3, .int .i64 o4] 2 (0, 0))) := heap_alloc2_new _ _ _
              have HSTEP : Hid (q ++ vehiclesL vs (k + 1) = q ++ vehiclesL vs k ++ lineL wVehicle [o0, o1, o2, o3, o4]) := by
                show _ = _
                rw [List.append_assoc, ← HF.out]
                rfl
              have HCL := writeLine_any w1.heap.size w1.heap.size (q ++ vehiclesL vs k) wVehicle (some ⟨wr.heap.size + 1, 0, none⟩) 5 [o0, o1, o2, o3, o4] ((wr.alloc (.cells #[.int .i64 o0, .int .i64 o1, .int .i64 o2, .int .i64 o3, .int .i64 o4] 58)).alloc (.cells #[.int .i64 o0, .int .i64 o1, .int .i64 o2, .int .i64 o3, .int .i64 o4] 2)) (UW.out.below BZ.out) (Nat.le_trans BW.out.size BZ.out.size) (fun W' h => IntsAt.of_row (h.row RZ.out (by have := BW.out.size; omega) (by decide))) (fun W' h => HPW1.out W' (BW.out.trans ((BZ.out.mono BW.out.size).trans h))) HSM.out (by simp) (by simp [wVehicle]) (by have := HTS.out; omega)
              rw [← HSTEP.out] at HCL
              clear hll
              go_wp2_with fail
              clear c0 c1 c2 c3 c4 r0 r1 r2 r3 r4
              refine HCL.mono ?_
              rintro e w2 ⟨rfl, hu, hb⟩
              have U2 : Hid (BU w1.heap.size w1.heap.size (q ++ vehiclesL vs (k + 1)) w2) := hu
              have B2 : Hid (Below w1.heap.size w1 w2) := BW.out.trans ((BZ.out.mono BW.out.size).trans hb.1)
              clear hu hb CW BW UW HCL BZ RZ
              go_wp2_with fail
              go_roundw
              case rel => exact ⟨k + 1, by omega, by go_num, U2.out, B2.out⟩
              case measure => simp [intOf]; omega
            · skip
              have hnlt : ¬ ((k : Int) < (kv : Int)) := by omega
              have HK3 : Hid (k = kv) := by show _ = _; omega
              have HEE : Hid (x = txt (q ++ vehiclesL vs k)) := by
                show _ = _
                rw [HE.out, ← HQ.out, ← HP.out, HK1.out, HK2.out, HK3.out]
              have HCL := string_any w1.heap.size w1.heap.size (q ++ vehiclesL vs k) wr UW.out (by simp [HNE.out])
              rw [← HEE.out] at HCL
              go_wp2_with fail
              refine HCL.mono ?_
              rintro e w2 ⟨rfl, hb⟩
              have B2 : Hid (Below w1.heap.size w1 w2) := BW.out.trans hb.1
              clear hb HCL
              go_wp2
              go_ret
              exact ⟨rfl, C1.out.1.trans (B2.out.mono C1.out.1.size)⟩

end Go.Proofs.YtacifgekflbjcaaDoor

namespace Go.Proofs.YtacifgekflbjcaaDoor
open Go.RowKit

set_option maxHeartbeats 1000000 in
theorem lawCaseText_big (n fine : Int) (a ao av : Option Addr) (lt cap ko co kv cv : Nat) (w : World) (hlt : lt ≤ 9223372036854775807) (hko : ko ≤ 9223372036854775807) (hkv : kv ≤ 9223372036854775807) (h : ¬ (lt + ko + kv ≤ 1048576)) :
    Calls Tryd.prog 3 #[.agg #[.int .i64 n, .slice a lt cap, .slice ao ko co, .slice av kv cv, .int .i64 fine]] w fun e w' => e = .returned (.bool true) ∧ Below w.heap.size w w' := by
  have HS : Hid (szV 1048576 lt ko kv = -1) := szV_neg h
  clear h
  go_enter Tryd.func3, Tryd.ntmps3
  go_wp2_with fail
  refine (szCase_any n fine 1048576 a ao av lt cap ko co kv cv _ (by omega) (by omega) hlt hko hkv).mono ?_
  rintro e w1 ⟨rfl, hb⟩
  rw [HS.out]
  obtain ⟨b1, r1⟩ := box5 hb
  clear hb r1
  go_wp2
  go_ret
  exact ⟨rfl, b1⟩

set_option maxHeartbeats 2000000 in
theorem lawCaseText (n fine : Int) (a ao av : Option Addr) (cap ko co kv cv : Nat) (zs os vs : List Int) (w : World) (hA : IntsAt w a zs) (hO : IntsAt w ao os) (hV : IntsAt w av vs) (hlo : os.length = ko * 6) (hlv : vs.length = kv * 5) (hsm : zs.length + ko + kv ≤ 1048576) (hPW : PW w) :
    Calls Tryd.prog 3 #[.agg #[.int .i64 n, .slice a zs.length cap, .slice ao ko co, .slice av kv cv, .int .i64 fine]] w fun e w' => e = .returned (.bool true) ∧ Below w.heap.size w w' := by
  have HPW : Hid (PW w) := hPW
  clear hPW
  have HA : Hid (IntsAt w a zs) := hA
  have HO : Hid (IntsAt w ao os) := hO
  have HV : Hid (IntsAt w av vs) := hV
  have HLO : Hid _ := hlo
  have HLV : Hid _ := hlv
  have HS : Hid (szV 1048576 zs.length ko kv = 1048576 - zs.length - ko - kv) := szV_pos hsm
  have hs1 : zs.length ≤ 1048576 := by omega
  have hs2 : ko ≤ 1048576 := by omega
  have hs3 : kv ≤ 1048576 := by omega
  clear hA hO hV hlo hlv
  go_enter Tryd.func3, Tryd.ntmps3
  go_wp2_with fail
  refine (szCase_any n fine 1048576 a ao av zs.length cap ko co kv cv _ (by omega) (by omega) (by omega) (by omega) (by omega)).mono ?_
  rintro e w1 ⟨rfl, hb⟩
  rw [HS.out]
  obtain ⟨b1, r1⟩ := box5 hb
  obtain ⟨c0, c1, c2, c3, c4⟩ := cells5 r1
  have B1 : Hid (Below w.heap.size w w1) := b1
  have R1 : Hid _ := r1
  clear hb b1 r1
  have hle : (0 : Int) ≤ 1048576 - zs.length - ko - kv := by omega
  go_wp2_with fail
  refine (toCase_any n fine a ao av cap ko co kv cv zs os vs _ (HA.out.below B1.out) (HO.out.below B1.out) (HV.out.below B1.out) HLO.out HLV.out hs1 hs2 hs3).mono ?_
  rintro e w2 ⟨g2, go2, gv2, _, _, _, rfl, hb, hg⟩
  obtain ⟨b2, r2⟩ := box_more hb B1.out R1.out
  have B2 : Hid (Below w.heap.size w w2) := b2
  have R2 : Hid _ := r2
  have G2 : Hid (CaseAt w2 g2 go2 gv2 zs os vs) := hg
  clear hb hg b2 r2 B1 R1 c0 c1 c2 c3 c4
  go_wp2_with fail
  refine (specCaseText_any n fine _ _ _ _ _ _ _ _ zs os vs _ G2.out.t G2.out.o G2.out.v HLO.out HLV.out (by omega) (by omega) (Nat.le_refl _) (by omega)).mono ?_
  rintro e w3 ⟨rfl, hb⟩
  obtain ⟨b3, r3⟩ := box_more hb B2.out R2.out
  have B3 : Hid (Below w.heap.size w w3) := b3
  have R3 : Hid _ := r3
  obtain ⟨c0, c1, c2, c3, c4⟩ := cells5 r3
  clear hb b3 r3 B2 R2 G2
  obtain ⟨mb, HM⟩ : ∃ mb, Hid ((if caseB n zs os vs ko kv fine = true then txt (caseL n fine zs os vs ko kv) else txt []) = mb) := ⟨_, rfl⟩
  rw [HM.out]
  go_wp2_with fail
  refine (toCase_any n fine a ao av cap ko co kv cv zs os vs _ (HA.out.below B3.out) (HO.out.below B3.out) (HV.out.below B3.out) HLO.out HLV.out hs1 hs2 hs3).mono ?_
  rintro e w4 ⟨g4, go4, gv4, _, _, _, rfl, hb, hg⟩
  obtain ⟨b4, r4⟩ := box_more hb B3.out R3.out
  have B4 : Hid (Below w.heap.size w w4) := b4
  have R4 : Hid _ := r4
  have G4 : Hid (CaseAt w4 g4 go4 gv4 zs os vs) := hg
  clear hb hg b4 r4 B3 R3 c0 c1 c2 c3 c4
  go_wp2_with fail
  have X4 : Hid (Below w4.heap.size w4 (w4.alloc (Obj.cells #[Value.int IntKind.i64 n, Value.slice (some ⟨g4, 0, none⟩) zs.length zs.length, Value.slice (some ⟨go4, 0, none⟩) ko ko, Value.slice (some ⟨gv4, 0, none⟩) kv kv, Value.int IntKind.i64 fine] 35))) := (Below.refl _ _).alloc (Nat.le_refl _) _
  refine (implCaseText_any n fine _ _ _ _ _ _ _ _ zs os vs _ (G4.out.below X4.out).t (G4.out.below X4.out).o (G4.out.below X4.out).v HLO.out HLV.out (by omega) (by omega) (Nat.le_refl _) (by omega) (HPW.out.below (B4.out.trans (X4.out.mono B4.out.size)) (Nat.le_refl _))).mono ?_
  rintro e w5 ⟨rfl, hb⟩
  rw [HM.out]
  obtain ⟨b5, x5⟩ := box5 hb
  obtain ⟨b5', r5⟩ := box_more b5 B4.out R4.out
  have B5 : Hid (Below w.heap.size w w5) := b5'
  have R5 : Hid _ := r5
  have X5 : Hid _ := x5
  have G5 : Hid (CaseAt w5 g4 go4 gv4 zs os vs) := G4.out.below b5
  clear hb b5 b5' r5 x5 B4 R4 X4 G4
  obtain ⟨c0, c1, c2, c3, c4⟩ := cells5 R5.out
  obtain ⟨x0, x1, x2, x3, x4⟩ := cells5 X5.out
  go_wp2_with fail
  go_region_held3 (fun W => W.cell? ⟨w.heap.size, 0, none⟩ = some (.int .i64 n) ∧ W.cell? ⟨w.heap.size, 1, none⟩ = some (.slice a zs.length cap) ∧ W.cell? ⟨w.heap.size, 2, none⟩ = some (.slice ao ko co) ∧ W.cell? ⟨w.heap.size, 3, none⟩ = some (.slice av kv cv) ∧ W.cell? ⟨w.heap.size, 4, none⟩ = some (.int .i64 fine) ∧ W.cell? ⟨w4.heap.size, 0, none⟩ = some (.int .i64 n) ∧ W.cell? ⟨w4.heap.size, 1, none⟩ = some (.slice (some ⟨g4, 0, none⟩) zs.length zs.length) ∧ W.cell? ⟨w4.heap.size, 2, none⟩ = some (.slice (some ⟨go4, 0, none⟩) ko ko) ∧ W.cell? ⟨w4.heap.size, 3, none⟩ = some (.slice (some ⟨gv4, 0, none⟩) kv kv) ∧ W.cell? ⟨w4.heap.size, 4, none⟩ = some (.int .i64 fine)) (first | go_keep | exact kS) ((first
    | (go_at_call 7
       refine (toCase_any n fine a ao av cap ko co kv cv zs os vs _ (by exact HA.out.below B5.out.drew) (by exact HO.out.below B5.out.drew) (by exact HV.out.below B5.out.drew) HLO.out HLV.out hs1 hs2 hs3).mono ?_
       rintro e w8 ⟨g8, go8, gv8, _, _, _, rfl, hb8, hg8⟩
       obtain ⟨k0, k1, k2, k3, k4⟩ := cells5 (below_row hb8 (row_lt R5.out) R5.out)
       obtain ⟨y0, y1, y2, y3, y4⟩ := cells5 (below_row hb8 (row_lt X5.out) X5.out)
       have kS := And.intro k0 (And.intro k1 (And.intro k2 (And.intro k3 (And.intro k4 (And.intro y0 (And.intro y1 (And.intro y2 (And.intro y3 y4))))))))
       have HB8 : Hid _ := hb8
       have HG8 : Hid (CaseAt w8 g8 go8 gv8 zs os vs) := hg8
       clear hb8 hg8 k0 k1 k2 k3 k4 y0 y1 y2 y3 y4)
    | (go_at_call 9
       refine (eqCase_same n fine _ _ _ _ _ _ _ _ _ _ _ _ _ _ zs os vs _ (by exact ((G5.out.below ((Below.refl _ _).drew)).below HB8.out).t) (by exact ((G5.out.below ((Below.refl _ _).drew)).below HB8.out).o) (by exact ((G5.out.below ((Below.refl _ _).drew)).below HB8.out).v) (by exact HG8.out.t) (by exact HG8.out.o) (by exact HG8.out.v) HLO.out HLV.out (by omega) (by omega) (by omega)).mono ?_
       rintro e w9 ⟨rfl, hb9⟩
       obtain ⟨k0, k1, k2, k3, k4⟩ := cells5 (below_row hb9 (row_lt (below_row HB8.out (row_lt R5.out) R5.out)) (below_row HB8.out (row_lt R5.out) R5.out))
       obtain ⟨y0, y1, y2, y3, y4⟩ := cells5 (below_row hb9 (row_lt (below_row HB8.out (row_lt X5.out) X5.out)) (below_row HB8.out (row_lt X5.out) X5.out))
       have kS := And.intro k0 (And.intro k1 (And.intro k2 (And.intro k3 (And.intro k4 (And.intro y0 (And.intro y1 (And.intro y2 (And.intro y3 y4))))))))
       have HB9 : Hid _ := hb9
       clear hb9 k0 k1 k2 k3 k4 y0 y1 y2 y3 y4)))
  all_goals
    have B8 : Below w.heap.size w w8 := B5.out.drew.trans (HB8.out.mono B5.out.size)
    have B9 : Below w.heap.size w w9 := B8.trans (HB9.out.mono B8.size)
    go_wp2
    go_ret
    exact ⟨rfl, B9⟩

end Go.Proofs.YtacifgekflbjcaaDoor
