import Derived.Test.YtmohcdnhbhigdaaPack1
import Derived.Test.YtmohcdnhbhigdaaPack8
import Derived.Test.YtmohcdnhbhigdaaSpecInsertAt
import Derived.Test.YtmohcdnhbhigdaaPack17
namespace Go.Proofs.Ytmohcdnhbhigdaa
open Go.RowKit

theorem specInsertAt_at (n fine veh : Int) (a ao av : Option Addr) (g cap ko co kv cv c2 : Nat) (zs os vs ids : List Int) (w : World) (hA : IntsAt w a zs) (hO : IntsAt w ao os) (hV : IntsAt w av vs) (hI : IntsAt w (some ⟨g, 0, none⟩) ids) (hlo : os.length = ko * 6) (hlv : vs.length = kv * 5) (hko : ko ≤ 9223372036854775807) (hkv : kv ≤ 9223372036854775807) (hli : ids.length ≤ 9223372036854775807) (hc2 : ids.length ≤ c2) (id x : Int) (ch : Bool) (hch : chB (caseB n zs os vs ko kv fine) n zs os vs ko kv veh ids (inB x 0 (ids.length : Int)) (insL ids x.toNat id) = ch) (D : Int) (hD : chD ch n zs os vs ko kv veh ids (insL ids x.toNat id) = D) (xs : List Int) (hxs : chL ch (insL ids x.toNat id) = xs) :
    Calls Try.prog 12 #[.agg #[.int .i64 n, .slice a zs.length cap, .slice ao ko co, .slice av kv cv, .int .i64 fine], .agg #[.int .i64 veh, .slice (some ⟨g, 0, none⟩) ids.length c2], .int .i64 id, .int .i64 x] w (ChgOk w ch veh D xs) :=
  specInsertAt_any n fine veh a ao av g 0 cap ko co kv cv c2 zs os vs ids w hA hO hV hI hlo hlv hko hkv hli hc2 id x ch hch D hD xs hxs
theorem implInsertAt_at (n fine veh : Int) (a ao av : Option Addr) (g cap ko co kv cv c2 : Nat) (zs os vs ids : List Int) (w : World) (hA : IntsAt w a zs) (hO : IntsAt w ao os) (hV : IntsAt w av vs) (hI : IntsAt w (some ⟨g, 0, none⟩) ids) (hlo : os.length = ko * 6) (hlv : vs.length = kv * 5) (hko : ko ≤ 9223372036854775807) (hkv : kv ≤ 9223372036854775807) (hli : ids.length ≤ 9223372036854775807) (hc2 : ids.length ≤ c2) (id x : Int) (ch : Bool) (hch : chB (caseB n zs os vs ko kv fine) n zs os vs ko kv veh ids (inB x 0 (ids.length : Int)) (insL ids x.toNat id) = ch) (D : Int) (hD : chD ch n zs os vs ko kv veh ids (insL ids x.toNat id) = D) (xs : List Int) (hxs : chL ch (insL ids x.toNat id) = xs) :
    Calls Try.prog 11 #[.agg #[.int .i64 n, .slice a zs.length cap, .slice ao ko co, .slice av kv cv, .int .i64 fine], .agg #[.int .i64 veh, .slice (some ⟨g, 0, none⟩) ids.length c2], .int .i64 id, .int .i64 x] w (ChgOk w ch veh D xs) :=
  implInsertAt_any n fine veh a ao av _ cap ko co kv cv c2 zs os vs ids w hA hO hV hI hlo hlv hko hkv hli hc2 (.inr ⟨_, _, rfl⟩) id x ch hch D hD xs hxs

end Go.Proofs.Ytmohcdnhbhigdaa

namespace Go.Proofs.Ytmohcdnhbhigdaa
open Go.RowKit

set_option maxHeartbeats 4000000 in
theorem specBestPlace_any (n fine veh : Int) (a ao av : Option Addr) (g cap ko co kv cv c2 : Nat) (zs os vs ids : List Int) (w : World) (hA : IntsAt w a zs) (hO : IntsAt w ao os) (hV : IntsAt w av vs) (hI : IntsAt w (some ⟨g, 0, none⟩) ids) (hlo : os.length = ko * 6) (hlv : vs.length = kv * 5) (hko : ko ≤ 9223372036854775807) (hkv : kv ≤ 9223372036854775807) (hli : ids.length ≤ 1048576) (hc2 : ids.length ≤ c2) (id : Int) (s0 : PS) (hs0 : bpV (caseB n zs os vs ko kv fine) n zs os vs ko kv veh ids id = s0) :
    Calls Try.prog 21 #[.agg #[.int .i64 n, .slice a zs.length cap, .slice ao ko co, .slice av kv cv, .int .i64 fine], .agg #[.int .i64 veh, .slice (some ⟨g, 0, none⟩) ids.length c2], .int .i64 id] w fun e w' => e = .returned (.tuple #[.int .i64 (s0.i : Int), .int .i64 s0.v, .bool s0.f]) ∧ Below w.heap.size w w' := by
  have HA : Hid (IntsAt w a zs) := hA
  have HO : Hid (IntsAt w ao os) := hO
  have HV : Hid (IntsAt w av vs) := hV
  have HI : Hid (IntsAt w (some ⟨g, 0, none⟩) ids) := hI
  have HLO : Hid _ := hlo
  have HLV : Hid _ := hlv
  clear hA hO hV hI hlo hlv
  have HS0 : Hid (bpV (caseB n zs os vs ko kv fine) n zs os vs ko kv veh ids id = s0) := hs0
  clear hs0
  have C0 : Hid (CR w ((w.alloc (.cells #[Value.int IntKind.i64 n, Value.slice a zs.length cap, Value.slice ao ko co, Value.slice av kv cv, Value.int IntKind.i64 fine] 30)).alloc (.cells #[Value.int IntKind.i64 veh, Value.slice (some ⟨g, 0, none⟩) ids.length c2] 32)) _ _) := CR.new w _ _
  obtain ⟨ok, HOK⟩ : ∃ t, Hid ((plB (caseB n zs os vs ko kv fine) n zs os vs ko kv veh ids id) = t) := ⟨_, rfl⟩
  obtain ⟨dl, HDL⟩ : ∃ t, Hid ((plD (caseB n zs os vs ko kv fine) n zs os vs ko kv veh ids id) = t) := ⟨_, rfl⟩
  have HF : Hid (pst ok dl (ids.length + 1) = s0) := by
    show pst ok dl (ids.length + 1) = s0
    rw [← HS0.out, ← HOK.out, ← HDL.out]
    rfl
  clear HS0
  go_enter Try.func21, Try.ntmps21
  go_wp2_with fail
  go_loopw [9, 10, 11, 12] (fun ta tv tf t wr => ∃ i : Nat, i ≤ ids.length + 1 ∧ t = .int .i64 i ∧ ta = .int .i64 ((pst ok dl i).i : Int) ∧ tv = .int .i64 (pst ok dl i).v ∧ tf = .bool (pst ok dl i).f ∧ CR w wr #[Value.int IntKind.i64 n, Value.slice a zs.length cap, Value.slice ao ko co, Value.slice av kv cv, Value.int IntKind.i64 fine] #[Value.int IntKind.i64 veh, Value.slice (some ⟨g, 0, none⟩) ids.length c2]) (fun _ _ _ t _ => ids.length + 1 - (intOf t).toNat)
  case atStart => exact ⟨0, Nat.zero_le _, rfl, rfl, rfl, rfl, C0.out⟩
  case round =>
    clear C0
    obtain ⟨i, hi, rfl, rfl, rfl, rfl, hC⟩ := hrel
    have C1 : Hid (CR w wr _ _) := hC
    clear hC
    obtain ⟨d0, d1⟩ := cells2 C1.out.2.2
    by_cases hlt : i ≤ ids.length
    · have h1 : (i : Int) ≤ (ids.length : Int) := by omega
      have hwr : IntKind.i64.wrap ((i : Int) + 1) = ((i + 1 : Nat) : Int) := by rw [IntWalk.i64_in _ (by omega)]; omega
      have HN : Hid (pst ok dl (i + 1) = pstep ok dl (pst ok dl i) i) := rfl
      obtain ⟨s, HS⟩ : ∃ t, Hid (pst ok dl i = t) := ⟨_, rfl⟩
      rw [HS.out] at HN ⊢
      obtain ⟨sf, si, sv⟩ := s
      simp only at HN ⊢
      obtain ⟨ch, HCH⟩ : ∃ t, Hid (ok i = t) := ⟨_, rfl⟩
      obtain ⟨D, HDD⟩ : ∃ t, Hid (dl i = t) := ⟨_, rfl⟩
      obtain ⟨c0, c1, c2', c3, c4⟩ := cells5 C1.out.2.1
      obtain ⟨xs, HXX⟩ : ∃ t, Hid (chL ch (insL ids i id) = t) := ⟨_, rfl⟩
      go_wp2_with fail
      clear c0 c1 c2' c3 c4 d0 d1
      refine (specInsertAt_at n fine veh a ao av g cap ko co kv cv c2 zs os vs ids wr (HA.out.below C1.out.1) (HO.out.below C1.out.1) (HV.out.below C1.out.1) (HI.out.below C1.out.1) HLO.out HLV.out hko hkv (by omega) hc2 id (i : Int) ch (by rw [← HCH.out, ← HOK.out]; rfl) D (by rw [← HDD.out, ← HDL.out, ← HCH.out, ← HOK.out]; rfl) xs HXX.out).mono ?_
      rintro e w2 ⟨hb, ad, c, rfl, _⟩
      obtain ⟨vv, HVV⟩ : ∃ t, Hid (chI ch veh = t) := ⟨_, rfl⟩
      rw [HVV.out]
      have C3 : Hid (CR w (w2.alloc (.cells #[Value.int IntKind.i64 vv, Value.slice ad xs.length c] 32)) _ _) := (C1.out.below hb).alloc _
      clear hb
      cases ch
      · have HN' : Hid (pst ok dl (i + 1) = ⟨sf, si, sv⟩) := HN.out.trans (pstep_no1 HCH.out)
        go_wp2
        go_roundw
        case rel => exact ⟨i + 1, by omega, by first | rfl | go_num, by rw [HN'.out], by rw [HN'.out], by rw [HN'.out], C3.out⟩
        case measure => simp [intOf]; omega
      · cases sf
        · have HN' : Hid (pst ok dl (i + 1) = ⟨true, i, D⟩) := HN.out.trans (by rw [← HDD.out]; exact pstep_new HCH.out rfl)
          go_wp2
          go_roundw
          case rel => exact ⟨i + 1, by omega, by first | rfl | go_num, by rw [HN'.out], by rw [HN'.out], by rw [HN'.out], C3.out⟩
          case measure => simp [intOf]; omega
        · by_cases hdv : D < sv
          · have HN' : Hid (pst ok dl (i + 1) = ⟨true, i, D⟩) := HN.out.trans (by rw [← HDD.out]; exact pstep_yes HCH.out (by rw [HDD.out]; exact hdv))
            go_wp2
            go_roundw
            case rel => exact ⟨i + 1, by omega, by first | rfl | go_num, by rw [HN'.out], by rw [HN'.out], by rw [HN'.out], C3.out⟩
            case measure => simp [intOf]; omega
          · have HN' : Hid (pst ok dl (i + 1) = ⟨true, si, sv⟩) := HN.out.trans (pstep_no2 rfl (by rw [HDD.out]; exact hdv))
            go_wp2
            go_roundw
            case rel => exact ⟨i + 1, by omega, by first | rfl | go_num, by rw [HN'.out], by rw [HN'.out], by rw [HN'.out], C3.out⟩
            case measure => simp [intOf]; omega
    · have hie : i = ids.length + 1 := by omega
      have h1 : ¬ ((i : Int) ≤ (ids.length : Int)) := by omega
      have HFi : Hid (pst ok dl i = s0) := by
        show pst ok dl i = s0
        rw [hie]
        exact HF.out
      rw [HFi.out]
      clear hie HFi
      go_wp2
      go_ret3
      exact ⟨rfl, C1.out.1⟩

end Go.Proofs.Ytmohcdnhbhigdaa

namespace Go.Proofs.Ytmohcdnhbhigdaa
open Go.RowKit

theorem lr7 {w W : World} {c0 c1 c2 c3 c4 r0 r1 : Value} (h : LR w W #[c0, c1, c2, c3, c4] #[r0, r1]) :
    W.cell? ⟨w.heap.size, 0, none⟩ = some c0 ∧ W.cell? ⟨w.heap.size, 1, none⟩ = some c1 ∧ W.cell? ⟨w.heap.size, 2, none⟩ = some c2 ∧ W.cell? ⟨w.heap.size, 3, none⟩ = some c3 ∧ W.cell? ⟨w.heap.size, 4, none⟩ = some c4 ∧ W.cell? ⟨w.heap.size + 1, 0, none⟩ = some r0 ∧ W.cell? ⟨w.heap.size + 1, 1, none⟩ = some r1 := h.cells

set_option maxHeartbeats 1000000 in
theorem lawBestPlace_big (n fine veh : Int) (a ao av bi : Option Addr) (lt cap ko co kv cv li c2 : Nat) (id : Int) (w : World) (hlt : lt ≤ 9223372036854775807) (hko : ko ≤ 9223372036854775807) (hkv : kv ≤ 9223372036854775807) (hli : li ≤ 9223372036854775807) (h : ¬ (lt + ko + kv + li ≤ 1048576)) :
    Calls Try.prog 8 #[.agg #[.int .i64 n, .slice a lt cap, .slice ao ko co, .slice av kv cv, .int .i64 fine], .agg #[.int .i64 veh, .slice bi li c2], .int .i64 id] w fun e w' => e = .returned (.bool true) ∧ Below w.heap.size w w' := by
  have HB0 : Hid (LR w ((w.alloc (.cells #[Value.int IntKind.i64 n, Value.slice a lt cap, Value.slice ao ko co, Value.slice av kv cv, Value.int IntKind.i64 fine] 49)).alloc (.cells #[Value.int IntKind.i64 veh, Value.slice bi li c2] 50)) _ _) := LR.new w _ _
  by_cases hc : lt + ko + kv ≤ 1048576
  · have HS : Hid (szV 1048576 lt ko kv = 1048576 - lt - ko - kv) := szV_pos hc
    have HX : Hid ((if (1048576 - lt - ko - kv : Int) < li then -1 else (1048576 - lt - ko - kv : Int) - li) = -1) := if_pos (by omega)
    clear h
    go_enter Try.func8, Try.ntmps8
    obtain ⟨e0, e1, e2, e3, e4, e5, e6⟩ := HB0.out.cells
    go_wp2_with fail
    clear e0 e1 e2 e3 e4 e5 e6
    refine (szCase_any n fine 1048576 a ao av lt cap ko co kv cv _ (by omega) (by omega) hlt hko hkv).mono ?_
    rintro e w1 ⟨rfl, hb⟩
    rw [HS.out]
    have B1 : Hid (LR w w1 _ _) := HB0.out.below hb
    clear hb HB0
    obtain ⟨e0, e1, e2, e3, e4, e5, e6⟩ := B1.out.cells
    have hle : (0 : Int) ≤ 1048576 - lt - ko - kv := by omega
    go_wp2_with fail
    clear e0 e1 e2 e3 e4 e5 e6
    refine (szRoute_any veh bi li c2 (1048576 - lt - ko - kv) _ (by omega) (by omega) hli).mono ?_
    rintro e w2 ⟨rfl, hb⟩
    rw [HX.out]
    have B2 : Hid (LR w w2 _ _) := B1.out.below hb
    clear hb B1
    go_wp2
    go_ret
    exact ⟨rfl, B2.out.1⟩
  · have HS : Hid (szV 1048576 lt ko kv = -1) := szV_neg hc
    clear h
    go_enter Try.func8, Try.ntmps8
    obtain ⟨e0, e1, e2, e3, e4, e5, e6⟩ := HB0.out.cells
    go_wp2_with fail
    clear e0 e1 e2 e3 e4 e5 e6
    refine (szCase_any n fine 1048576 a ao av lt cap ko co kv cv _ (by omega) (by omega) hlt hko hkv).mono ?_
    rintro e w1 ⟨rfl, hb⟩
    rw [HS.out]
    have B1 : Hid (LR w w1 _ _) := HB0.out.below hb
    clear hb HB0
    go_wp2
    go_ret
    exact ⟨rfl, B1.out.1⟩

set_option maxHeartbeats 4000000 in
theorem lawBestPlace (n fine veh : Int) (a ao av bi : Option Addr) (cap ko co kv cv c2 : Nat) (zs os vs ids : List Int) (w : World) (id : Int) (hA : IntsAt w a zs) (hO : IntsAt w ao os) (hV : IntsAt w av vs) (hI : IntsAt w bi ids) (hlo : os.length = ko * 6) (hlv : vs.length = kv * 5) (hsm : zs.length + ko + kv + ids.length ≤ 1048576) :
    Calls Try.prog 8 #[.agg #[.int .i64 n, .slice a zs.length cap, .slice ao ko co, .slice av kv cv, .int .i64 fine], .agg #[.int .i64 veh, .slice bi ids.length c2], .int .i64 id] w fun e w' => e = .returned (.bool true) ∧ Below w.heap.size w w' := by
  have HA : Hid (IntsAt w a zs) := hA
  have HO : Hid (IntsAt w ao os) := hO
  have HV : Hid (IntsAt w av vs) := hV
  have HI : Hid (IntsAt w bi ids) := hI
  have HLO : Hid _ := hlo
  have HLV : Hid _ := hlv
  clear hA hO hV hI hlo hlv
  have HSZ : Hid (szV 1048576 zs.length ko kv = 1048576 - zs.length - ko - kv) := szV_pos (by omega)
  have HX : Hid ((if (1048576 - zs.length - ko - kv : Int) < ids.length then -1 else (1048576 - zs.length - ko - kv : Int) - ids.length) = 1048576 - zs.length - ko - kv - ids.length) := if_neg (by omega)
  have hs1 : zs.length ≤ 1048576 := by omega
  have hs2 : ko ≤ 1048576 := by omega
  have hs3 : kv ≤ 1048576 := by omega
  have hs4 : ids.length ≤ 1048576 := by omega
  have B0 : Hid (LR w ((w.alloc (.cells #[Value.int IntKind.i64 n, Value.slice a zs.length cap, Value.slice ao ko co, Value.slice av kv cv, Value.int IntKind.i64 fine] 49)).alloc (.cells #[Value.int IntKind.i64 veh, Value.slice bi ids.length c2] 50)) _ _) := LR.new w _ _
  obtain ⟨r, HR⟩ : ∃ r, Hid (bpV (caseB n zs os vs ko kv fine) n zs os vs ko kv veh ids id = r) := ⟨_, rfl⟩
  obtain ⟨ra, HRa⟩ : ∃ t, Hid ((r.i : Int) = t) := ⟨_, rfl⟩
  obtain ⟨rb, HRb⟩ : ∃ t, Hid (r.v = t) := ⟨_, rfl⟩
  obtain ⟨rv, HRv⟩ : ∃ t, Hid (r.f = t) := ⟨_, rfl⟩
  go_enter Try.func8, Try.ntmps8
  obtain ⟨e0, e1, e2, e3, e4, e5, e6⟩ := B0.out.cells
  go_wp2_with fail
  clear e0 e1 e2 e3 e4 e5 e6
  refine (szCase_any n fine 1048576 a ao av zs.length cap ko co kv cv _ (by omega) (by omega) (by omega) (by omega) (by omega)).mono ?_
  rintro e w1 ⟨rfl, hb⟩
  rw [HSZ.out]
  have B1 : Hid (LR w w1 _ _) := B0.out.below hb
  clear hb B0
  obtain ⟨e0, e1, e2, e3, e4, e5, e6⟩ := B1.out.cells
  have hle : (0 : Int) ≤ 1048576 - zs.length - ko - kv := by omega
  go_wp2_with fail
  clear e0 e1 e2 e3 e4 e5 e6
  refine (szRoute_any veh bi ids.length c2 (1048576 - zs.length - ko - kv) _ (by omega) (by omega) (by omega)).mono ?_
  rintro e w2 ⟨rfl, hb⟩
  rw [HX.out]
  have B2 : Hid (LR w w2 _ _) := B1.out.below hb
  clear hb B1
  have hle2 : (0 : Int) ≤ 1048576 - zs.length - ko - kv - ids.length := by omega
  obtain ⟨e0, e1, e2, e3, e4, e5, e6⟩ := B2.out.cells
  go_wp2_with fail
  go_region_held3 (fun W => W.cell? ⟨w.heap.size, 0, none⟩ = some (.int .i64 n) ∧ W.cell? ⟨w.heap.size, 1, none⟩ = some (.slice a zs.length cap) ∧ W.cell? ⟨w.heap.size, 2, none⟩ = some (.slice ao ko co) ∧ W.cell? ⟨w.heap.size, 3, none⟩ = some (.slice av kv cv) ∧ W.cell? ⟨w.heap.size, 4, none⟩ = some (.int .i64 fine) ∧ W.cell? ⟨w.heap.size + 1, 0, none⟩ = some (.int .i64 veh) ∧ W.cell? ⟨w.heap.size + 1, 1, none⟩ = some (.slice bi ids.length c2)) (first | with_reducible exact kS | go_keep) ((first
  | (go_at_call 25
     with_reducible refine (toCase_any n fine a ao av cap ko co kv cv zs os vs w2.drew (HA.out.below B2.out.drew.b) (HO.out.below B2.out.drew.b) (HV.out.below B2.out.drew.b) HLO.out HLV.out hs1 hs2 hs3).mono ?_
     rintro e w3 ⟨g3, go3, gv3, _, _, _, rfl, hb, hg⟩
     have B3 : Hid (LR w w3 _ _) := B2.out.drew.below hb
     have C3 : Hid (CaseAt w3 g3 go3 gv3 zs os vs) := hg
     obtain ⟨k0, k1, k2, k3, k4, k5, k6⟩ := B3.out.cells
     have kS := And.intro k0 (And.intro k1 (And.intro k2 (And.intro k3 (And.intro k4 (And.intro k5 k6)))))
     clear hb hg
     clear k0 k1 k2 k3 k4 k5 k6)
  | (go_at_call 26
     with_reducible refine (toRoute_any veh bi c2 ids w3 (HI.out.below B3.out.b) hs4).mono ?_
     rintro e w4 ⟨gr4, _, rfl, hb, hg⟩
     have B4 : Hid (LR w w4 _ _) := B3.out.below hb
     have C4 : Hid (CaseAt w4 g3 go3 gv3 zs os vs) := C3.out.below hb
     have I4 : Hid (IntsAt w4 (some ⟨gr4, 0, none⟩) ids) := IntsAt.of_row hg
     obtain ⟨k0, k1, k2, k3, k4, k5, k6⟩ := B4.out.cells
     have kS := And.intro k0 (And.intro k1 (And.intro k2 (And.intro k3 (And.intro k4 (And.intro k5 k6)))))
     clear hb hg
     clear k0 k1 k2 k3 k4 k5 k6)
  | (go_at_call 21
     with_reducible refine (specBestPlace_any n fine veh _ _ _ _ _ _ _ _ _ _ zs os vs ids w4 C4.out.t C4.out.o C4.out.v I4.out HLO.out HLV.out (by omega) (by omega) (by omega) (Nat.le_refl _) id r HR.out).mono ?_
     rintro e w6 ⟨rfl, hb⟩
     rw [HRa.out, HRb.out, HRv.out]
     have B6 : Hid (LR w w6 _ _) := B4.out.below hb
     obtain ⟨k0, k1, k2, k3, k4, k5, k6⟩ := B6.out.cells
     have kS := And.intro k0 (And.intro k1 (And.intro k2 (And.intro k3 (And.intro k4 (And.intro k5 k6)))))
     clear hb
     clear k0 k1 k2 k3 k4 k5 k6)))
  all_goals
    clear e0 e1 e2 e3 e4 e5 e6
    clear kS B2 B3 C3 B4 C4 I4
    obtain ⟨e0, e1, e2, e3, e4, e5, e6⟩ := B6.out.cells
    go_wp2_with fail
    clear e0 e1 e2 e3 e4 e5 e6
    refine (toCase_any n fine a ao av cap ko co kv cv zs os vs _ (HA.out.below B6.out.b) (HO.out.below B6.out.b) (HV.out.below B6.out.b) HLO.out HLV.out hs1 hs2 hs3).mono ?_
    rintro e w7 ⟨g7, go7, gv7, _, _, _, rfl, hb, hg⟩
    have B7 : Hid (LR w (w7.alloc (Obj.cells #[Value.int IntKind.i64 n, Value.slice (some ⟨g7, 0, none⟩) zs.length zs.length, Value.slice (some ⟨go7, 0, none⟩) ko ko, Value.slice (some ⟨gv7, 0, none⟩) kv kv, Value.int IntKind.i64 fine] 30)) _ _) := (B6.out.below hb).alloc _
    have X7 : Hid ((w7.alloc (Obj.cells #[Value.int IntKind.i64 n, Value.slice (some ⟨g7, 0, none⟩) zs.length zs.length, Value.slice (some ⟨go7, 0, none⟩) ko ko, Value.slice (some ⟨gv7, 0, none⟩) kv kv, Value.int IntKind.i64 fine] 30)).heap[w7.heap.size]? = _) := heap_alloc_new _ _
    have C7 : Hid (CaseAt (w7.alloc (Obj.cells #[Value.int IntKind.i64 n, Value.slice (some ⟨g7, 0, none⟩) zs.length zs.length, Value.slice (some ⟨go7, 0, none⟩) ko ko, Value.slice (some ⟨gv7, 0, none⟩) kv kv, Value.int IntKind.i64 fine] 30)) g7 go7 gv7 zs os vs) := hg.below ((Below.refl _ _).alloc (Nat.le_refl _) _)
    clear hb hg B6
    obtain ⟨e0, e1, e2, e3, e4, e5, e6⟩ := B7.out.cells
    go_wp2_with fail
    clear e0 e1 e2 e3 e4 e5 e6
    generalize w7.alloc (Obj.cells #[Value.int IntKind.i64 n, Value.slice (some ⟨g7, 0, none⟩) zs.length zs.length, Value.slice (some ⟨go7, 0, none⟩) ko ko, Value.slice (some ⟨gv7, 0, none⟩) kv kv, Value.int IntKind.i64 fine] 30) = W7 at *
    generalize w7.heap.size = bx at *
    refine (toRoute_any veh bi c2 ids W7 (HI.out.below B7.out.b) hs4).mono ?_
    rintro e w8 ⟨gr8, _, rfl, hb, hg⟩
    have B8 : Hid (LR w (w8.alloc (Obj.cells #[Value.int IntKind.i64 veh, Value.slice (some ⟨gr8, 0, none⟩) ids.length ids.length] 32)) _ _) := (B7.out.below hb).alloc _
    have X8 : Hid ((w8.alloc (Obj.cells #[Value.int IntKind.i64 veh, Value.slice (some ⟨gr8, 0, none⟩) ids.length ids.length] 32)).heap[bx]? = _) := (heap_alloc_old _ _ (row_lt (below_row hb (row_lt X7.out) X7.out))).trans (below_row hb (row_lt X7.out) X7.out)
    have Y8 : Hid ((w8.alloc (Obj.cells #[Value.int IntKind.i64 veh, Value.slice (some ⟨gr8, 0, none⟩) ids.length ids.length] 32)).heap[w8.heap.size]? = _) := heap_alloc_new _ _
    have C8 : Hid (CaseAt (w8.alloc (Obj.cells #[Value.int IntKind.i64 veh, Value.slice (some ⟨gr8, 0, none⟩) ids.length ids.length] 32)) g7 go7 gv7 zs os vs) := (C7.out.below hb).below ((Below.refl _ _).alloc (Nat.le_refl _) _)
    have I8 : Hid (IntsAt (w8.alloc (Obj.cells #[Value.int IntKind.i64 veh, Value.slice (some ⟨gr8, 0, none⟩) ids.length ids.length] 32)) (some ⟨gr8, 0, none⟩) ids) := (IntsAt.of_row hg).below ((Below.refl _ _).alloc (Nat.le_refl _) _)
    clear hb hg B7 X7 C7
    obtain ⟨x0, x1, x2, x3, x4⟩ := cells5 X8.out
    obtain ⟨y0, y1⟩ := cells2 Y8.out
    go_wp2_with fail
    clear x0 x1 x2 x3 x4 y0 y1
    generalize w8.alloc (Obj.cells #[Value.int IntKind.i64 veh, Value.slice (some ⟨gr8, 0, none⟩) ids.length ids.length] 32) = w9 at *
    generalize w8.heap.size = by8 at *
    have B9 : Hid (LR w w9 _ _) := B8.out
    have X9 : Hid (w9.heap[bx]? = _) := X8.out
    have Y9 : Hid (w9.heap[by8]? = _) := Y8.out
    have C9 : Hid (CaseAt w9 g7 go7 gv7 zs os vs) := C8.out
    have I9 : Hid (IntsAt w9 (some ⟨gr8, 0, none⟩) ids) := I8.out
    clear B8 X8 Y8 C8 I8
    refine (implBestPlace_any n fine veh _ _ _ _ _ _ _ _ _ _ zs os vs ids w9 C9.out.t C9.out.o C9.out.v I9.out HLO.out HLV.out (by omega) (by omega) (by omega) (Nat.le_refl _) (.inr ⟨_, _, rfl⟩) id r HR.out).mono ?_
    rintro e w10 ⟨rfl, hb⟩
    rw [HRa.out, HRb.out, HRv.out]
    have B10 : Hid (LR w w10 _ _) := B9.out.below hb
    have X10 : Hid (w10.heap[bx]? = _) := below_row hb (row_lt X9.out) X9.out
    have Y10 : Hid (w10.heap[by8]? = _) := below_row hb (row_lt Y9.out) Y9.out
    have C10 : Hid (CaseAt w10 g7 go7 gv7 zs os vs) := C9.out.below hb
    have I10 : Hid (IntsAt w10 (some ⟨gr8, 0, none⟩) ids) := I9.out.below hb
    clear hb B9 X9 Y9 C9 I9
    have hma : (ra != ra) = false := by simp
    have hmb : (rb != rb) = false := by simp
    have hmv : (rv != rv) = false := by simp
    obtain ⟨e0, e1, e2, e3, e4, e5, e6⟩ := B10.out.cells
    obtain ⟨x0, x1, x2, x3, x4⟩ := cells5 X10.out
    go_wp2_with fail
    go_region_held3 (fun W => (W.cell? ⟨w.heap.size, 0, none⟩ = some (.int .i64 n) ∧ W.cell? ⟨w.heap.size, 1, none⟩ = some (.slice a zs.length cap) ∧ W.cell? ⟨w.heap.size, 2, none⟩ = some (.slice ao ko co) ∧ W.cell? ⟨w.heap.size, 3, none⟩ = some (.slice av kv cv) ∧ W.cell? ⟨w.heap.size, 4, none⟩ = some (.int .i64 fine) ∧ W.cell? ⟨w.heap.size + 1, 0, none⟩ = some (.int .i64 veh) ∧ W.cell? ⟨w.heap.size + 1, 1, none⟩ = some (.slice bi ids.length c2)) ∧ W.cell? ⟨bx, 0, none⟩ = some (.int .i64 n) ∧ W.cell? ⟨bx, 1, none⟩ = some (.slice (some ⟨g7, 0, none⟩) zs.length zs.length) ∧ W.cell? ⟨bx, 2, none⟩ = some (.slice (some ⟨go7, 0, none⟩) ko ko) ∧ W.cell? ⟨bx, 3, none⟩ = some (.slice (some ⟨gv7, 0, none⟩) kv kv) ∧ W.cell? ⟨bx, 4, none⟩ = some (.int .i64 fine)) (first | with_reducible exact kS | go_keep) ((first
    | (go_at_call 25
       with_reducible refine (toCase_any n fine a ao av cap ko co kv cv zs os vs w10.drew (HA.out.below B10.out.drew.b) (HO.out.below B10.out.drew.b) (HV.out.below B10.out.drew.b) HLO.out HLV.out hs1 hs2 hs3).mono ?_
       rintro e w11 ⟨g11, go11, gv11, _, _, _, rfl, hb', hg⟩
       have hb := (Below.refl w10.heap.size w10).drew.trans (hb'.mono (Nat.le_refl _))
       have B11 : Hid (LR w w11 _ _) := B10.out.below hb
       have X11 : Hid (w11.heap[bx]? = _) := below_row hb (row_lt X10.out) X10.out
       have Y11 : Hid (w11.heap[by8]? = _) := below_row hb (row_lt Y10.out) Y10.out
       have C11 : Hid (CaseAt w11 g7 go7 gv7 zs os vs) := C10.out.below hb
       have I11 : Hid (IntsAt w11 (some ⟨gr8, 0, none⟩) ids) := I10.out.below hb
       have D11 : Hid (CaseAt w11 g11 go11 gv11 zs os vs) := hg
       have kS := And.intro (lr7 B11.out) (cells5 X11.out)
       clear hb hb' hg)
    | (go_at_call 29
       with_reducible refine (eqCase_same n fine _ _ _ _ _ _ _ _ _ _ _ _ _ _ zs os vs w11 C11.out.t C11.out.o C11.out.v D11.out.t D11.out.o D11.out.v HLO.out HLV.out (by omega) (by omega) (by omega)).mono ?_
       rintro e w12 ⟨rfl, hb⟩
       have B12 : Hid (LR w w12 _ _) := B11.out.below hb
       have X12 : Hid (w12.heap[bx]? = _) := below_row hb (row_lt X11.out) X11.out
       have Y12 : Hid (w12.heap[by8]? = _) := below_row hb (row_lt Y11.out) Y11.out
       have C12 : Hid (CaseAt w12 g7 go7 gv7 zs os vs) := C11.out.below hb
       have I12 : Hid (IntsAt w12 (some ⟨gr8, 0, none⟩) ids) := I11.out.below hb
       have kS := And.intro (lr7 B12.out) (cells5 X12.out)
       clear hb)))
    all_goals
      clear e0 e1 e2 e3 e4 e5 e6 x0 x1 x2 x3 x4 kS B10 X10 Y10 C10 I10 B11 X11 Y11 C11 I11 D11
      obtain ⟨e0, e1, e2, e3, e4, e5, e6⟩ := B12.out.cells
      obtain ⟨y0, y1⟩ := cells2 Y12.out
      go_wp2_with fail
      go_region_held3 (fun W => (W.cell? ⟨w.heap.size, 0, none⟩ = some (.int .i64 n) ∧ W.cell? ⟨w.heap.size, 1, none⟩ = some (.slice a zs.length cap) ∧ W.cell? ⟨w.heap.size, 2, none⟩ = some (.slice ao ko co) ∧ W.cell? ⟨w.heap.size, 3, none⟩ = some (.slice av kv cv) ∧ W.cell? ⟨w.heap.size, 4, none⟩ = some (.int .i64 fine) ∧ W.cell? ⟨w.heap.size + 1, 0, none⟩ = some (.int .i64 veh) ∧ W.cell? ⟨w.heap.size + 1, 1, none⟩ = some (.slice bi ids.length c2)) ∧ W.cell? ⟨by8, 0, none⟩ = some (.int .i64 veh) ∧ W.cell? ⟨by8, 1, none⟩ = some (.slice (some ⟨gr8, 0, none⟩) ids.length ids.length)) (first | with_reducible exact kS | go_keep) ((first
      | (go_at_call 26
         with_reducible refine (toRoute_any veh bi c2 ids w12.drew (HI.out.below B12.out.drew.b) hs4).mono ?_
         rintro e w13 ⟨gr13, _, rfl, hb', hg⟩
         have hb := (Below.refl w12.heap.size w12).drew.trans (hb'.mono (Nat.le_refl _))
         have B13 : Hid (LR w w13 _ _) := B12.out.below hb
         have X13 : Hid (w13.heap[bx]? = _) := below_row hb (row_lt X12.out) X12.out
         have Y13 : Hid (w13.heap[by8]? = _) := below_row hb (row_lt Y12.out) Y12.out
         have C13 : Hid (CaseAt w13 g7 go7 gv7 zs os vs) := C12.out.below hb
         have I13 : Hid (IntsAt w13 (some ⟨gr8, 0, none⟩) ids) := I12.out.below hb
         have J13 : Hid (IntsAt w13 (some ⟨gr13, 0, none⟩) ids) := IntsAt.of_row hg
         have kS := And.intro (lr7 B13.out) (cells2 Y13.out)
         clear hb hb' hg)
      | (go_at_call 30
         with_reducible refine (eqRoute_same veh _ _ _ _ ids w13 I13.out J13.out (by omega)).mono ?_
         rintro e w14 ⟨rfl, hb⟩
         have B14 : Hid (LR w w14 _ _) := B13.out.below hb
         have X14 : Hid (w14.heap[bx]? = _) := below_row hb (row_lt X13.out) X13.out
         have Y14 : Hid (w14.heap[by8]? = _) := below_row hb (row_lt Y13.out) Y13.out
         have C14 : Hid (CaseAt w14 g7 go7 gv7 zs os vs) := C13.out.below hb
         have I14 : Hid (IntsAt w14 (some ⟨gr8, 0, none⟩) ids) := I13.out.below hb
         have kS := And.intro (lr7 B14.out) (cells2 Y14.out)
         clear hb)))
      all_goals
        clear e0 e1 e2 e3 e4 e5 e6 y0 y1 kS
        go_wp2
        go_ret
        exact ⟨rfl, B14.out.1⟩

end Go.Proofs.Ytmohcdnhbhigdaa
